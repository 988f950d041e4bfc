package parts_test

import (
	"math"
	"math/rand"
	"slices"
	"testing"

	"winch/api"
	"winch/parts"
	"winch/types"
)

// randomCells returns cells that a block can have.
func randomCells(r *rand.Rand, name string) []int {
	variables, _ := types.Standard(name)
	var cells []int
	for _, v := range variables {
		n := of(r.Intn(20), -r.Intn(5), math.MaxInt32-r.Intn(3), math.MinInt32+r.Intn(3))[max(0, r.Intn(9)-5)]
		if v.Type.Kind == api.KBool {
			n = r.Intn(2)
		}
		cells = append(cells, n)
	}
	return cells
}

// TestProperties is about P12.4.
func TestProperties(t *testing.T) {
	r := rand.New(rand.NewSource(1))
	running := 0
	for range 30000 {
		name := parts.Names()[r.Intn(9)]
		before := randomCells(r, name)
		now := r.Intn(25)
		once, err := parts.Scan(name, before, now)
		twice, again := parts.Scan(name, once, now)
		if err != api.OK || again != api.OK {
			t.Fatalf("Scan(%s, %v, %d) = %v, %d; then %v, %d", name, before, now, once, err, twice, again)
		}
		want := slices.Clone(once)
		if name == "rtrig" || name == "ftrig" {
			want[1] = 0
		}
		if !slices.Equal(twice, want) {
			t.Fatalf("Scan(%s, %v, %d) = %v; and again %v", name, before, now, once, twice)
		}
		// A tof that runs without its output has never been executed before.
		if name == "tof" && once[0] == 0 && once[2] == 0 {
			continue
		}
		if parts.IsTimed(name) && once[5] == 1 && (name != "ton" || once[2] == 0) {
			running++
			if once[3] < 0 || once[3] >= once[1] {
				t.Fatalf("Scan(%s, %v, %d) = %v", name, before, now, once)
			}
		}
		if wakes, err := parts.Wakes(name, once); err != api.OK || wakes >= 0 && wakes <= now {
			t.Fatalf("Wakes(%s, %v) = %d, %d, after a scan at %d", name, once, wakes, err, now)
		}
	}
	if running < 500 {
		t.Errorf("%d blocks run", running)
	}
}

// TestWaking holds Wakes against executions at all times, which begin where blocks are that have been executed.
func TestWaking(t *testing.T) {
	r := rand.New(rand.NewSource(2))
	found := map[bool]int{}
	for range 3000 {
		name := of("ton", "tof", "tp")[r.Intn(3)]
		cells := make([]int, 6)
		now := 0
		for range 1 + r.Intn(6) {
			now += r.Intn(5)
			cells[0], cells[1] = r.Intn(2), r.Intn(8)-1
			cells, _ = parts.Scan(name, cells, now)
		}
		first := -1
		at, _ := parts.Scan(name, cells, max(now, cells[4]))
		for time := now; time < now+20 && first < 0; time++ {
			if l, _ := parts.Scan(name, cells, time); l[2] != at[2] {
				first = time
			}
		}
		got, err := parts.Wakes(name, cells)
		if got != first || err != api.OK {
			t.Errorf("Wakes(%s, %v) = %d, %d; want %d", name, cells, got, err, first)
		}
		found[first >= 0]++
	}
	if found[true] < 300 || found[false] < 300 {
		t.Errorf("%v", found)
	}
}

// TestHeld is about P12.4: a ton whose input is 1 has its output from the first execution on at which its time has gone by.
func TestHeld(t *testing.T) {
	r := rand.New(rand.NewSource(3))
	for range 1000 {
		preset := r.Intn(30) - 3
		var inputs [][]int
		var times []int
		now := r.Intn(100)
		for range 20 {
			inputs, times = append(inputs, of(1, preset)), append(times, now)
			now += r.Intn(6)
		}
		outputs, err := parts.Run("ton", make([]int, 6), inputs, times)
		if err != api.OK || len(outputs) != 20 {
			t.Fatalf("Run(%v, %v) = %v, %d", inputs, times, outputs, err)
		}
		for i, l := range outputs {
			if (l[0] == 1) != (times[i]-times[0] >= preset) || l[1] != max(0, min(preset, times[i]-times[0])) {
				t.Errorf("Run(%v, %v) = %v", inputs, times, outputs)
			}
		}
	}
}
