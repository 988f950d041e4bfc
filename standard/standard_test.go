package standard_test

import (
	"slices"
	"testing"

	"winch/api"
	"winch/standard"
)

func TestFunctions(t *testing.T) {
	names := []string{"abs", "limit", "max", "min", "sel", "tobool", "toint", "totime"}
	counts := []int{1, 3, 2, 2, 3, 1, 1, 1}
	l := standard.Functions()
	if len(l) != len(names) {
		t.Fatalf("%v", l)
	}
	for i, f := range l {
		if f.Name != names[i] || len(f.Inputs) != counts[i] {
			t.Errorf("%d: %v", i, f)
		}
	}
	if !slices.Equal(l[4].Inputs, []int{api.KBool, api.KInt, api.KInt}) || !slices.Equal(l[6].Inputs, []int{api.KTime}) {
		t.Errorf("%v", l)
	}
}

func TestBlocks(t *testing.T) {
	names := []string{"ctd", "ctu", "ftrig", "rs", "rtrig", "sr", "tof", "ton", "tp"}
	counts := []int{6, 6, 3, 3, 3, 3, 6, 6, 6}
	l := standard.Blocks()
	if len(l) != len(names) {
		t.Fatalf("%v", l)
	}
	for i, b := range l {
		if b.Name != names[i] || len(b.Cells) != counts[i] {
			t.Errorf("%d: %v", i, b)
		}
	}
	if !slices.Equal(l[7].Cells, []int{api.KBool, api.KTime, api.KBool, api.KTime, api.KTime, api.KBool}) {
		t.Errorf("%v", l[7])
	}
}
