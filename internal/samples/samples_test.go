package samples_test

import (
	"math/rand"
	"strings"
	"testing"

	"winch/api"
	"winch/check"
	"winch/internal/samples"
	"winch/types"
)

// TestProject checks that projects have what they should have, and that there are many of them.
func TestProject(t *testing.T) {
	r := rand.New(rand.NewSource(1))
	m := samples.New(r.Intn)
	found := map[string]int{}
	for range 1500 {
		p, source := m.Project()
		if _, err := check.Check(p); err != api.OK {
			t.Fatalf("%s: %d", source, err)
		}
		for unit := range p.Units {
			if cells := m.Cells(p, unit); !types.IsCells(p, unit, cells) {
				t.Errorf("%s has not the cells %v", source, cells)
			}
		}
		for _, word := range strings.FieldsFunc(source, func(r rune) bool { return !(r >= 'a' && r <= 'z' || r == '_') }) {
			found[word]++
		}
	}
	for _, word := range strings.Fields("program block function input output local retain bool int time st il ld fbd sfc ton tof tp ctu ctd sr rs rtrig ftrig blk f if elsif else case for while repeat by exit return jmp jmpc jmpcn ret retc retcn cal calc calcn ldn stn set reset andn orn xorn not rung box jump return add sub mul div mod gt and or xor initial macro enter leave limit_ delay from abs min max limit sel tobool toint totime") {
		if found[word] < 10 {
			t.Errorf("%d times %s", found[word], word)
		}
	}
}
