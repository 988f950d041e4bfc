package parts_test

import (
	"fmt"
	"math"
	"reflect"
	"slices"
	"strings"
	"testing"

	"winch/api"
	"winch/parts"
)

func of[T any](l ...T) []T { return l }

func TestNames(t *testing.T) {
	want := strings.Fields("ctd ctu ftrig rs rtrig sr tof ton tp")
	for range 2 {
		got := parts.Names()
		if !slices.Equal(got, want) {
			t.Errorf("Names = %q", got)
		}
		clear(got)
	}
	for _, name := range append(want, "", "TON", "ton ", "abs", "t") {
		if got := parts.IsTimed(name); got != slices.Contains(of("tof", "ton", "tp"), name) {
			t.Errorf("IsTimed(%q) = %v", name, got)
		}
	}
}

// TestScan has the cells of blocks before and after an execution at a time: those of timers are in, pt, q, et, since, runs.
func TestScan(t *testing.T) {
	const least, most = math.MinInt32, math.MaxInt32
	for _, x := range []struct {
		name   string
		before []int
		now    int
		want   []int
	}{
		// A ton that is off, starts, runs, and is done.
		{"ton", of(0, 5, 0, 0, 0, 0), 7, of(0, 5, 0, 0, 0, 0)}, {"ton", of(0, 5, 1, 5, 3, 1), 7, of(0, 5, 0, 0, 3, 0)}, {"ton", of(0, 5, 1, 4, 9, 0), 7, of(0, 5, 0, 0, 9, 0)},
		{"ton", of(1, 5, 0, 0, 3, 0), 7, of(1, 5, 0, 0, 7, 1)}, {"ton", of(1, 5, 1, 4, 3, 0), 7, of(1, 5, 0, 0, 7, 1)}, {"ton", of(1, 5, 0, 0, 3, 1), 7, of(1, 5, 0, 4, 3, 1)}, {"ton", of(1, 5, 0, 4, 3, 1), 8, of(1, 5, 1, 5, 3, 1)}, {"ton", of(1, 5, 1, 5, 3, 1), 100, of(1, 5, 1, 5, 3, 1)}, {"ton", of(1, 50, 1, 5, 3, 1), 20, of(1, 50, 0, 17, 3, 1)},
		// Times that are 0, or less, and a beginning that is to come, or was very long ago.
		{"ton", of(1, 0, 0, 0, 3, 0), 7, of(1, 0, 1, 0, 7, 1)}, {"ton", of(1, -5, 0, 0, 3, 0), 7, of(1, -5, 1, 0, 7, 1)}, {"ton", of(1, -5, 0, 9, 3, 1), 7, of(1, -5, 1, 0, 3, 1)}, {"ton", of(1, 5, 1, 4, 9, 1), 7, of(1, 5, 0, 0, 9, 1)}, {"ton", of(1, 0, 0, 4, 9, 1), 7, of(1, 0, 1, 0, 9, 1)},
		{"ton", of(1, most, 0, 0, least, 1), 0, of(1, most, 1, most, least, 1)}, {"ton", of(1, most, 0, 0, -1000, 1), api.MaxTime, of(1, most, 0, 1000001000, -1000, 1)}, {"ton", of(1, 5, 0, 0, most, 1), api.MaxTime, of(1, 5, 0, 0, most, 1)}, {"ton", of(1, least, 0, 0, least, 1), api.MaxTime, of(1, least, 1, 0, least, 1)},
		// A tof that is on, starts when its input is off, and is done.
		{"tof", of(1, 5, 0, 4, 3, 1), 7, of(1, 5, 1, 0, 3, 0)}, {"tof", of(1, 5, 1, 0, 3, 0), 7, of(1, 5, 1, 0, 3, 0)}, {"tof", of(0, 5, 1, 0, 3, 0), 7, of(0, 5, 1, 0, 7, 1)}, {"tof", of(0, 5, 1, 0, 3, 1), 7, of(0, 5, 1, 4, 3, 1)}, {"tof", of(0, 5, 1, 4, 3, 1), 8, of(0, 5, 0, 5, 3, 0)}, {"tof", of(0, 5, 0, 5, 3, 0), 100, of(0, 5, 0, 5, 3, 0)}, {"tof", of(0, 5, 0, 4, 3, 1), 100, of(0, 5, 0, 4, 3, 1)},
		{"tof", of(0, 0, 1, 9, 3, 0), 7, of(0, 0, 0, 0, 7, 0)}, {"tof", of(0, -1, 1, 9, 3, 1), 7, of(0, -1, 0, 0, 3, 0)}, {"tof", of(0, 5, 1, 4, 9, 1), 7, of(0, 5, 1, 0, 9, 1)}, {"tof", of(0, most, 1, 0, least, 1), 0, of(0, most, 0, most, least, 0)},
		// A tp that starts, runs whatever its input is, and waits for its input to be off.
		{"tp", of(0, 5, 0, 0, 3, 0), 7, of(0, 5, 0, 0, 3, 0)}, {"tp", of(1, 5, 0, 0, 3, 0), 7, of(1, 5, 1, 0, 7, 1)}, {"tp", of(1, 5, 1, 0, 3, 1), 7, of(1, 5, 1, 4, 3, 1)}, {"tp", of(0, 5, 1, 0, 3, 1), 7, of(0, 5, 1, 4, 3, 1)}, {"tp", of(1, 5, 1, 4, 3, 1), 8, of(1, 5, 0, 5, 3, 0)}, {"tp", of(0, 5, 1, 4, 3, 1), 8, of(0, 5, 0, 0, 3, 0)}, {"tp", of(1, 5, 0, 5, 3, 0), 100, of(1, 5, 0, 5, 3, 0)}, {"tp", of(0, 5, 0, 5, 3, 0), 100, of(0, 5, 0, 0, 3, 0)},
		{"tp", of(1, 1, 0, 0, 3, 0), 7, of(1, 1, 1, 0, 7, 1)}, {"tp", of(1, 5, 1, 0, 3, 0), 7, of(1, 5, 1, 0, 3, 0)}, {"tp", of(1, 0, 0, 0, 3, 0), 7, of(1, 0, 0, 0, 3, 0)}, {"tp", of(1, -5, 0, 0, 3, 0), 7, of(1, -5, 0, 0, 3, 0)}, {"tp", of(1, 0, 1, 4, 3, 1), 7, of(1, 0, 0, 0, 3, 0)}, {"tp", of(1, -9, 1, 4, 3, 1), 7, of(1, -9, 0, 0, 3, 0)}, {"tp", of(1, 5, 0, 4, 9, 1), 7, of(1, 5, 0, 0, 9, 1)}, {"tp", of(0, 5, 0, 4, 9, 1), 7, of(0, 5, 0, 0, 9, 1)}, {"tp", of(0, 5, 1, 4, 9, 0), 7, of(0, 5, 1, 0, 9, 0)}, {"tp", of(0, most, 1, 0, least, 1), 0, of(0, most, 0, 0, least, 0)},
		// Counters: cu, r, pv, q, cv, was.
		{"ctu", of(0, 0, 2, 0, 0, 0), 7, of(0, 0, 2, 0, 0, 0)}, {"ctu", of(1, 0, 2, 0, 0, 0), 7, of(1, 0, 2, 0, 1, 1)}, {"ctu", of(1, 0, 2, 0, 1, 1), 7, of(1, 0, 2, 0, 1, 1)}, {"ctu", of(1, 0, 2, 0, 1, 0), 7, of(1, 0, 2, 1, 2, 1)}, {"ctu", of(0, 0, 2, 0, 5, 1), 7, of(0, 0, 2, 1, 5, 0)}, {"ctu", of(0, 0, 6, 1, 5, 1), 7, of(0, 0, 6, 0, 5, 0)},
		{"ctu", of(1, 1, 2, 1, 5, 0), 7, of(1, 1, 2, 0, 0, 1)}, {"ctu", of(0, 1, 0, 0, 5, 1), 7, of(0, 1, 0, 1, 0, 0)}, {"ctu", of(1, 0, 5, 1, most, 0), 7, of(1, 0, 5, 1, most, 1)}, {"ctu", of(1, 0, least, 0, least, 0), 7, of(1, 0, least, 1, least+1, 1)}, {"ctu", of(1, 0, most, 0, most-1, 0), 7, of(1, 0, most, 1, most, 1)},
		{"ctd", of(0, 0, 2, 0, 3, 0), 7, of(0, 0, 2, 0, 3, 0)}, {"ctd", of(1, 0, 2, 0, 2, 0), 7, of(1, 0, 2, 0, 1, 1)}, {"ctd", of(1, 0, 2, 0, 1, 1), 7, of(1, 0, 2, 0, 1, 1)}, {"ctd", of(1, 0, 2, 0, 1, 0), 7, of(1, 0, 2, 1, 0, 1)}, {"ctd", of(1, 0, 2, 0, 0, 0), 7, of(1, 0, 2, 1, -1, 1)}, {"ctd", of(0, 0, 2, 1, 5, 1), 7, of(0, 0, 2, 0, 5, 0)},
		{"ctd", of(1, 1, 2, 1, 0, 0), 7, of(1, 1, 2, 0, 2, 1)}, {"ctd", of(0, 1, -3, 0, 5, 1), 7, of(0, 1, -3, 1, -3, 0)}, {"ctd", of(1, 0, 5, 0, least, 0), 7, of(1, 0, 5, 1, least, 1)}, {"ctd", of(1, 0, 5, 0, least+1, 0), 7, of(1, 0, 5, 1, least, 1)}, {"ctd", of(1, 0, 5, 1, most, 0), 7, of(1, 0, 5, 0, most-1, 1)},
		// Edges: clk, q, was.
		{"rtrig", of(0, 1, 0), 7, of(0, 0, 0)}, {"rtrig", of(1, 0, 0), 7, of(1, 1, 1)}, {"rtrig", of(1, 1, 1), 7, of(1, 0, 1)}, {"rtrig", of(0, 1, 1), 7, of(0, 0, 0)}, {"ftrig", of(0, 1, 0), 7, of(0, 0, 0)}, {"ftrig", of(1, 1, 0), 7, of(1, 0, 1)}, {"ftrig", of(1, 1, 1), 7, of(1, 0, 1)}, {"ftrig", of(0, 0, 1), 7, of(0, 1, 0)},
	} {
		before := slices.Clone(x.before)
		got, err := parts.Scan(x.name, x.before, x.now)
		if !slices.Equal(got, x.want) || err != api.OK {
			t.Errorf("Scan(%s, %v, %d) = %v, %d; want %v", x.name, before, x.now, got, err, x.want)
		}
		clear(got)
		if !slices.Equal(x.before, before) {
			t.Errorf("Scan(%s, %v, %d) makes its cells %v", x.name, before, x.now, x.before)
		}
	}
	// All of sr (s1, r, q1) and rs (s, r1, q1).
	for i := range 8 {
		a, b, q := i>>2&1, i>>1&1, i&1
		set, reset := of(1, q, q, 0)[(1-a)*(1+b)+(1-a)*b], of(1, q, q, 0)[(1-a)*(1-b)+3*b]
		got, e1 := parts.Scan("sr", of(a, b, q), 7)
		other, e2 := parts.Scan("rs", of(a, b, q), 7)
		if !slices.Equal(got, of(a, b, set)) || !slices.Equal(other, of(a, b, reset)) || e1 != api.OK || e2 != api.OK {
			t.Errorf("%d %d %d: sr %v, rs %v; want %d, %d", a, b, q, got, other, set, reset)
		}
	}
}

// TestRun has the inputs of blocks, and the outputs, in the form "time: inputs > outputs".
func TestRun(t *testing.T) {
	for _, x := range []struct{ name, runs string }{
		{"ton", ""},
		{"ton", "100: 1 500 > 0 0, 599: 1 500 > 0 499, 600: 1 500 > 1 500, 700: 1 500 > 1 500, 700: 0 500 > 0 0, 701: 1 500 > 0 0, 702: 1 0 > 1 0, 703: 1 5 > 0 2, 1000: 1 -1 > 1 0"},
		{"tof", "0: 0 500 > 0 0, 100: 1 500 > 1 0, 200: 0 500 > 1 0, 699: 0 500 > 1 499, 700: 0 500 > 0 500, 800: 0 500 > 0 500, 800: 1 500 > 1 0, 900: 0 500 > 1 0, 1000: 1 500 > 1 0, 1100: 0 500 > 1 0, 1600: 0 500 > 0 500, 1600: 1 0 > 1 0, 1600: 0 0 > 0 0"},
		{"tp", "0: 0 50 > 0 0, 10: 1 50 > 1 0, 20: 0 50 > 1 10, 30: 1 50 > 1 20, 60: 1 50 > 0 50, 70: 1 50 > 0 50, 80: 0 50 > 0 0, 80: 1 50 > 1 0, 90: 0 50 > 1 10, 140: 0 50 > 0 0, 140: 1 0 > 0 0, 150: 1 5 > 1 0"},
		{"ctu", "0: 0 0 2 > 0 0, 0: 1 0 2 > 0 1, 0: 1 0 2 > 0 1, 0: 0 0 2 > 0 1, 0: 1 0 2 > 1 2, 0: 0 0 3 > 0 2, 0: 1 0 3 > 1 3, 0: 1 1 3 > 0 0, 0: 1 0 3 > 0 0, 0: 0 1 0 > 1 0"},
		{"ctd", "0: 0 0 2 > 1 0, 0: 0 1 2 > 0 2, 0: 1 0 2 > 0 1, 0: 1 0 9 > 0 1, 0: 0 0 9 > 0 1, 0: 1 0 9 > 1 0, 0: 0 0 9 > 1 0, 0: 1 0 9 > 1 -1, 0: 1 1 9 > 0 9, 0: 1 0 9 > 0 9"},
		{"sr", "0: 0 0 > 0, 0: 1 0 > 1, 0: 0 0 > 1, 0: 1 1 > 1, 0: 0 1 > 0, 0: 0 0 > 0"}, {"rs", "0: 0 0 > 0, 0: 1 0 > 1, 0: 0 0 > 1, 0: 1 1 > 0, 0: 0 0 > 0, 0: 1 0 > 1, 0: 0 1 > 0"},
		{"rtrig", "0: 1 > 1, 0: 1 > 0, 0: 0 > 0, 0: 1 > 1"}, {"ftrig", "0: 1 > 0, 0: 1 > 0, 0: 0 > 1, 0: 0 > 0, 0: 1 > 0, 1000000000: 0 > 1"},
	} {
		var times []int
		var inputs, want [][]int
		for _, word := range strings.Split(x.runs, ", ") {
			if word == "" {
				continue
			}
			time, rest, _ := strings.Cut(word, ": ")
			before, after, _ := strings.Cut(rest, " > ")
			times, inputs, want = append(times, numbers(time)...), append(inputs, numbers(before)), append(want, numbers(after))
		}
		given := fmt.Sprint(inputs, times)
		got, err := parts.Run(x.name, make([]int, sizes[x.name]), inputs, times)
		if !equal(got, want) || err != api.OK {
			t.Errorf("Run of %s: %v, %d; want %v", x.name, got, err, want)
		}
		for _, l := range got {
			clear(l)
		}
		if fmt.Sprint(inputs, times) != given {
			t.Errorf("Run of %s changes its inputs", x.name)
		}
	}
	// The cells that are there at first.
	if got, err := parts.Run("ton", of(0, 9, 0, 9, 20, 1), of(of(1, 50)), of(60)); !equal(got, of(of(0, 40))) || err != api.OK {
		t.Errorf("Run of a ton that runs: %v, %d", got, err)
	}
}

// sizes has the number of cells of each block.
var sizes = map[string]int{"ton": 6, "tof": 6, "tp": 6, "ctu": 6, "ctd": 6, "sr": 3, "rs": 3, "rtrig": 3, "ftrig": 3}

func numbers(s string) []int {
	var l []int
	for _, word := range strings.Fields(s) {
		var n int
		fmt.Sscan(word, &n)
		l = append(l, n)
	}
	return l
}

func equal(a, b [][]int) bool { return len(a) == 0 && len(b) == 0 || reflect.DeepEqual(a, b) }

func TestWakes(t *testing.T) {
	for _, x := range []struct {
		name  string
		cells []int
		want  int
	}{
		{"ton", of(1, 5, 0, 0, 7, 1), 12}, {"tof", of(0, 5, 1, 4, 7, 1), 12}, {"tp", of(1, 5, 1, 4, 7, 1), 12}, {"tp", of(0, 5, 1, 0, 0, 1), 5},
		{"ton", of(1, 5, 1, 5, 7, 1), -1}, {"ton", of(1, 5, 1, 6, 7, 1), -1}, {"ton", of(0, 5, 0, 0, 7, 0), -1}, {"tof", of(1, 5, 1, 0, 7, 0), -1}, {"tp", of(1, 5, 0, 4, 7, 0), -1}, {"ton", of(1, 0, 1, 0, 7, 1), -1},
		{"ton", of(1, -5, 0, 0, 7, 1), -1}, {"ton", of(1, -5, 0, -1, 7, 1), 7}, {"ton", of(1, -5, 0, -9, 7, 1), 7}, {"tp", of(1, math.MaxInt32, 0, math.MinInt32, math.MaxInt32, 1), 2 * math.MaxInt32}, {"tof", of(1, 1, 0, 0, math.MinInt32, 1), math.MinInt32 + 1},
		{"ctu", of(1, 0, 5, 0, 0, 1), -1}, {"ctd", of(1, 0, 5, 0, 0, 1), -1}, {"sr", of(1, 0, 0), -1}, {"rs", of(1, 0, 0), -1}, {"rtrig", of(1, 0, 0), -1}, {"ftrig", of(0, 0, 1), -1},
	} {
		if got, err := parts.Wakes(x.name, x.cells); got != x.want || err != api.OK {
			t.Errorf("Wakes(%s, %v) = %d, %d; want %d", x.name, x.cells, got, err, x.want)
		}
	}
}

// expectError checks what Scan, Run and Wakes say of cells that a block cannot have.
func expectError(t *testing.T, name string, cells []int, want api.Errno) {
	t.Helper()
	after, e1 := parts.Scan(name, cells, 0)
	outputs, e2 := parts.Run(name, cells, nil, nil)
	time, e3 := parts.Wakes(name, cells)
	if e1 != want || e2 != want || e3 != want || len(after)+len(outputs)+time != 0 {
		t.Errorf("%.20q with %v: Scan %v, %d; Run %v, %d; Wakes %d, %d; want %d", name, cells, after, e1, outputs, e2, time, e3, want)
	}
}

func TestErrors(t *testing.T) {
	for _, name := range of("", "TON", "ton ", "abs", "none", strings.Repeat("ton", 1<<16)) {
		for _, cells := range of(nil, of(0), make([]int, 6), of(2, 1<<40)) {
			expectError(t, name, cells, api.ErrNone)
		}
		// That there is no block comes before what is wrong with the rest.
		if l, err := parts.Scan(name, nil, -1); len(l) != 0 || err != api.ErrNone {
			t.Errorf("Scan(%.20q) = %v, %d", name, l, err)
		}
		if l, err := parts.Run(name, nil, of(of(1)), nil); len(l) != 0 || err != api.ErrNone {
			t.Errorf("Run(%.20q) = %v, %d", name, l, err)
		}
	}
	for name, size := range sizes {
		for _, n := range of(0, 1, 2, 3, 4, 5, 6, 7, 1<<20) {
			if n != size {
				expectError(t, name, make([]int, n), api.ErrArg)
			}
		}
		cells := make([]int, size)
		for at := range cells {
			// These cells are no bools.
			isNumber := map[string]string{"ton": "1 3 4", "tof": "1 3 4", "tp": "1 3 4", "ctu": "2 4", "ctd": "2 4"}[name]
			for _, n := range of(-1, 0, 1, 2, math.MaxInt32, math.MinInt32, math.MaxInt32+1, math.MinInt32-1, math.MaxInt, math.MinInt) {
				cells[at] = n
				isValue := n >= math.MinInt32 && n <= math.MaxInt32
				if isRight := slices.Contains(numbers(isNumber), at) && isValue || n == 0 || n == 1; isRight {
					if _, err := parts.Scan(name, cells, 0); err != api.OK {
						t.Errorf("Scan(%s, %v): %d", name, cells, err)
					}
				} else {
					expectError(t, name, cells, api.ErrArg)
				}
			}
			cells[at] = 0
		}
		for _, now := range of(math.MinInt, -1, 0, 1, api.MaxTime, api.MaxTime+1, math.MaxInt) {
			want := api.OK
			if now < 0 || now > api.MaxTime {
				want = api.ErrArg
			}
			if l, err := parts.Scan(name, cells, now); err != want || (len(l) == size) != (want == api.OK) {
				t.Errorf("Scan(%s, %v, %d) = %v, %d", name, cells, now, l, err)
			}
		}
	}
}

func TestErrorsOfRun(t *testing.T) {
	good := of(1, 500)
	for _, x := range []struct {
		inputs [][]int
		times  []int
		want   api.Errno
	}{
		{nil, nil, api.OK}, {of(good), of(0), api.OK}, {of(good, good, good), of(5, 5, api.MaxTime), api.OK}, {of(of(0, math.MinInt32), of(1, math.MaxInt32)), of(0, 0), api.OK},
		{of(good), nil, api.ErrArg}, {nil, of(0), api.ErrArg}, {of(good, good), of(0), api.ErrArg}, {of(good), of(0, 0), api.ErrArg}, {of(good, good), of(1, 0), api.ErrArg}, {of(good, good), of(-1, 0), api.ErrArg}, {of(good, good), of(0, api.MaxTime+1), api.ErrArg},
		{of(of[int]()), of(0), api.ErrArg}, {of(of(1)), of(0), api.ErrArg}, {of(of(1, 5, 0)), of(0), api.ErrArg}, {of(of(1, 5, 0, 0, 0, 0)), of(0), api.ErrArg}, {of(good, nil), of(0, 0), api.ErrArg}, {of(of(2, 5)), of(0), api.ErrArg}, {of(of(-1, 5)), of(0), api.ErrArg}, {of(of(1, 1<<31)), of(0), api.ErrArg}, {of(good, of(1, -1<<31-1)), of(0, 0), api.ErrArg},
	} {
		if l, err := parts.Run("tof", make([]int, 6), x.inputs, x.times); err != x.want || err != api.OK && len(l) != 0 || err == api.OK && len(l) != len(x.inputs) {
			t.Errorf("Run(%v, %v) = %v, %d; want %d", x.inputs, x.times, l, err, x.want)
		}
	}
}
