package machine_test

import (
	"fmt"
	"math"
	"math/rand"
	"slices"
	"strings"
	"testing"

	"winch/api"
	"winch/code"
	"winch/internal/samples"
	"winch/machine"
)

// expectScan checks what all functions say of one scan: steps are those that are counted, without the one of a fault.
func expectScan(t *testing.T, what string, c api.Code, unit int, cells []int, now int, want []int, fault, steps int) {
	t.Helper()
	before := slices.Clone(cells)
	got, found, err := machine.Scan(c, unit, cells, now)
	if !slices.Equal(got, want) || found != fault || err != api.OK {
		t.Errorf("%s with %v at %d: %v, %d, %d; want %v, %d", what, cells, now, got, found, err, want, fault)
	}
	_, after, found, err := machine.Visited(c, unit, cells, now)
	if !slices.Equal(after, want) || found != fault || err != api.OK {
		t.Errorf("%s with %v at %d: Visited: %v, %d, %d; want %v, %d", what, cells, now, after, found, err, want, fault)
	}
	count, err := machine.Steps(c, unit, cells, now)
	if count != steps || err != api.OK {
		t.Errorf("%s with %v at %d: %d steps, %d; want %d", what, cells, now, count, err, steps)
	}
	if !slices.Equal(cells, before) {
		t.Errorf("%s changes %v into %v", what, before, cells)
	}
	if len(got) > 0 {
		got[0]++
		after[0]++
		if !slices.Equal(cells, before) {
			t.Errorf("%s shares its cells", what)
		}
	}
}

// TestInstructions executes each instruction in a program that has 4 cells more than the cells are said: its last instruction returns.
func TestInstructions(t *testing.T) {
	for _, x := range []struct {
		text   string
		before []int
		after  []int
		fault  int
		steps  int
	}{
		{"return", of[int](), of[int](), 0, 1}, {"return", of(5, -7), of(5, -7), 0, 1},
		{"const -5;store 1;return", of(1, 2), of(1, -5), 0, 3}, {"load 1;store 0;return", of(1, 2), of(2, 2), 0, 3}, {"now;store 0;return", of(1, 2), of(77, 2), 0, 3},
		{"load 0;loadx 1 2;store 0;return", of(0, 7, 8), of(7, 7, 8), 0, 4}, {"load 0;loadx 1 2;store 0;return", of(1, 7, 8), of(8, 7, 8), 0, 4}, {"load 0;loadx 1 2;store 0;return", of(2, 7, 8), of(2, 7, 8), api.FIndex, 1}, {"load 0;loadx 1 2;store 0;return", of(-1, 7, 8), of(-1, 7, 8), api.FIndex, 1}, {"load 0;loadx 1 1;store 0;return", of(1, 7, 8), of(1, 7, 8), api.FIndex, 1},
		{"const 9;store 2;load 0;loadx 1 2;store 0;return", of(-1<<31, 7, 8), of(-1<<31, 7, 8), api.FIndex, 3}, {"load 0;loadx 0 3;store 0;return", of(1<<31-1, 7, 8), of(1<<31-1, 7, 8), api.FIndex, 1},
		{"const 5;load 0;storex 1 2;return", of(0, 7, 8), of(0, 5, 8), 0, 4}, {"const 5;load 0;storex 1 2;return", of(1, 7, 8), of(1, 7, 5), 0, 4}, {"const 5;load 0;storex 1 2;return", of(2, 7, 8), of(2, 7, 8), api.FIndex, 2}, {"const 5;load 0;storex 1 2;return", of(-1, 7, 8), of(-1, 7, 8), api.FIndex, 2}, {"const 5;const 4;store 0;load 0;storex 0 3;return", of(0, 7, 8), of(0, 7, 8), api.FIndex, 4},
		// Operators: logical ones see values modulo 2.
		{"load 0;unary 6;store 0;return", of(0), of(1), 0, 4}, {"load 0;unary 6;store 0;return", of(1), of(0), 0, 4}, {"load 0;unary 6;store 0;return", of(-1), of(0), 0, 4}, {"load 0;unary 6;store 0;return", of(-1 << 31), of(1), 0, 4}, {"load 0;unary 7;store 0;return", of(5), of(-5), 0, 4}, {"load 0;unary 7;store 0;return", of(-1 << 31), of(-1 << 31), 0, 4},
		{"load 0;load 1;binary 8;store 0;return", of(2, 5), of(1, 5), 0, 5}, {"load 0;load 1;binary 8;store 0;return", of(2, -4), of(0, -4), 0, 5}, {"load 0;load 1;binary 9;store 0;return", of(-1, 3), of(0, 3), 0, 5}, {"load 0;load 1;binary 9;store 0;return", of(-1, 6), of(1, 6), 0, 5}, {"load 0;load 1;binary 10;store 0;return", of(-3, 7), of(1, 7), 0, 5}, {"load 0;load 1;binary 10;store 0;return", of(2, 7), of(0, 7), 0, 5},
		{"load 0;load 1;binary 11;store 0;return", of(2, 2), of(1, 2), 0, 5}, {"load 0;load 1;binary 11;store 0;return", of(2, 0), of(0, 0), 0, 5}, {"load 0;load 1;binary 12;store 0;return", of(2, 4), of(1, 4), 0, 5}, {"load 0;load 1;binary 13;store 0;return", of(-2, 4), of(1, 4), 0, 5}, {"load 0;load 1;binary 13;store 0;return", of(4, -2), of(0, -2), 0, 5}, {"load 0;load 1;binary 14;store 0;return", of(4, 4), of(1, 4), 0, 5}, {"load 0;load 1;binary 15;store 0;return", of(4, 3), of(1, 3), 0, 5}, {"load 0;load 1;binary 15;store 0;return", of(4, 4), of(0, 4), 0, 5}, {"load 0;load 1;binary 16;store 0;return", of(4, 4), of(1, 4), 0, 5},
		{"load 0;load 1;binary 17;store 0;return", of(1<<31-1, 1), of(-1<<31, 1), 0, 5}, {"load 0;load 1;binary 18;store 0;return", of(3, 10), of(-7, 10), 0, 5}, {"load 0;load 1;binary 19;store 0;return", of(65536, 65537), of(65536, 65537), 0, 5}, {"load 0;load 1;binary 20;store 0;return", of(-7, 2), of(-3, 2), 0, 5}, {"load 0;load 1;binary 21;store 0;return", of(-7, 2), of(-1, 2), 0, 5}, {"load 0;load 1;binary 20;store 0;return", of(-1<<31, -1), of(-1<<31, -1), 0, 5},
		{"load 0;load 1;binary 20;store 0;return", of(5, 0), of(5, 0), api.FZero, 2}, {"const 1;store 0;load 0;load 1;binary 21;store 0;return", of(5, 0), of(5, 0), api.FZero, 4},
		// Standard functions.
		{"load 0;std 0;store 0;return", of(-5), of(5), 0, 4}, {"load 0;load 1;load 2;std 1;store 0;return", of(0, 7, 5), of(5, 7, 5), 0, 6}, {"load 0;load 1;std 2;store 0;return", of(3, 7), of(7, 7), 0, 5}, {"load 0;load 1;std 3;store 0;return", of(3, 7), of(3, 7), 0, 5}, {"load 0;load 1;load 2;std 4;store 0;return", of(2, 7, 5), of(7, 7, 5), 0, 6}, {"load 0;load 1;load 2;std 4;store 0;return", of(-1, 7, 5), of(5, 7, 5), 0, 6}, {"load 0;std 5;store 0;return", of(2), of(1), 0, 4}, {"load 0;std 6;store 0;return", of(-2), of(-2), 0, 4}, {"load 0;std 7;store 0;return", of(-2), of(0), 0, 4},
		// Jumps.
		{"jump 3;const 5;store 0;return", of(1), of(1), 0, 2}, {"load 0;false 4;const 5;store 1;return", of(0, 1), of(0, 1), 0, 3}, {"load 0;false 4;const 5;store 1;return", of(2, 1), of(2, 5), 0, 5}, {"load 0;false 4;const 5;store 1;return", of(-2, 1), of(-2, 5), 0, 5}, {"load 0;const 1;binary 18;store 0;load 0;false 7;jump 0;return", of(3), of(0), 0, 7 + 7 + 7}, {"jump 0", of(3), of(3), api.FFuel, 20000},
		// The stack.
		{"load 0;load 1;pick 1;store 2;store 0;store 1;return", of(3, 4, 0), of(4, 3, 3), 0, 7}, {"load 0;load 1;pick 0;store 2;store 0;store 1;return", of(3, 4, 0), of(4, 3, 4), 0, 7}, {"load 0;load 1;const 9;put 1;store 1;store 0;return", of(3, 4), of(9, 4), 0, 7}, {"load 0;load 1;const 9;put 0;store 1;store 0;return", of(3, 4), of(3, 9), 0, 7}, {"load 0;load 1;drop;store 1;return", of(3, 4), of(3, 3), 0, 5},
		// Standard blocks, of which some cells are not 0 or 1.
		{"part 5 0;return", of(2, 4, 1), of(0, 0, 1), 0, 2}, {"part 5 1;return", of(2, 3, 5, 7), of(2, 1, 1, 1), 0, 2}, {"part 3 0;return", of(-1, -2, 6), of(1, 0, 1), 0, 2}, {"part 4 0;return", of(1, 0, 0), of(1, 1, 1), 0, 2}, {"part 4 0;part 4 0;return", of(1, 0, 0), of(1, 0, 1), 0, 3}, {"part 7 0;return", of(1, 50, 0, 0, 0, 0), of(1, 50, 0, 0, 77, 1), 0, 2}, {"part 7 0;return", of(1, 50, 0, 0, 20, 1), of(1, 50, 1, 50, 20, 1), 0, 2}, {"part 1 0;return", of(3, 2, 1, 0, 0, 2), of(1, 0, 1, 1, 1, 1), 0, 2},
	} {
		c := samples.Assembled(fmt.Sprintf("unit p 1 %d 0;%s", len(x.before), x.text))
		if code.Check(c) != api.OK {
			t.Errorf("%s is not valid", x.text)
			continue
		}
		expectScan(t, x.text, c, 0, x.before, 77, x.after, x.fault, x.steps)
	}
}

// library is some functions and blocks: p executes all of them.
const library = "unit f 3 5 2; load 1;load 2;binary 18;store 0;load 4;load 3;binary 20;drop;return;" +
	"unit g 3 4 2; const 1;store 3;load 1;load 2;binary 18;store 0;load 0;load 3;binary 20;drop;return;" +
	"unit h 3 2 1; load 1;load 1;call 1;now;binary 17;store 0;return;" +
	"unit b 2 2 0; load 0;const 1;binary 17;store 0;return;" +
	"unit c 2 5 0; unit 3 0;unit 3 2;unit 3 2;load 2;call 2;store 4;return;"

// TestUnits has units that execute others.
func TestUnits(t *testing.T) {
	for _, x := range []struct {
		text          string
		before, after []int
		fault, steps  int
	}{
		{"load 0;load 1;call 1;store 0;return", of(9, 4), of(5, 4), 0, 5 + 11},
		// A function has cells of 0, and has a fault of its own.
		{"load 0;load 1;call 0;store 0;return", of(9, 4), of(9, 4), api.FZero, 3 + 6},
		{"load 0;call 2;store 0;return", of(9, 4), of(77, 4), 0, 4 + 7 + 11},
		{"unit 3 1;return", of(9, 4, 6), of(9, 5, 6), 0, 2 + 5}, {"unit 4 0;unit 4 1;return", of(9, 4, 6, 1, 1, 1), of(10, 5, 8, 3, 77, 77), 0, 3 + 2*(7+3*5+7+11)},
	} {
		c := samples.Assembled(fmt.Sprintf("%sunit p 1 %d 0;%s", library, len(x.before), x.text))
		if code.Check(c) != api.OK {
			t.Errorf("%s is not valid", x.text)
			continue
		}
		expectScan(t, x.text, c, 5, x.before, 77, x.after, x.fault, x.steps)
	}
	c := samples.Assembled(library + "unit p 1 5 0;return")
	expectScan(t, "c", c, 4, of(1, 1, 1, 1, 1), 5, of(2, 1, 3, 1, 5), 0, 7+3*5+7+11)
	for unit, want := range []int{0, 5, 0} {
		args := of(9, 4)[:c.Units[unit].Args]
		fault := []int{api.FZero, 0, 0}[unit]
		if n, found, err := machine.Call(c, unit, args); n != want || found != fault || err != api.OK {
			t.Errorf("Call of %d: %d, %d, %d", unit, n, found, err)
		}
	}
	if n, found, err := machine.Call(samples.Assembled("unit f 3 1 0;jump 0"), 0, nil); n != 0 || found != api.FFuel || err != api.OK {
		t.Errorf("Call without an end: %d, %d, %d", n, found, err)
	}
}

// TestExamples has the examples of the chapter.
func TestExamples(t *testing.T) {
	c := samples.Assembled("unit p 1 2 0;load 0;unary 6;store 1;return")
	expectScan(t, "q := not a;", c, 0, of(0, 0), 0, of(0, 1), api.FNone, 4)
	expectScan(t, "jump 0", samples.Assembled("unit p 1 0 0;jump 0"), 0, nil, 0, nil, api.FFuel, 20000)
}

// TestFuel has scans of as many steps as there can be, and of one more: they count as many times down as the first cell says, with
// seven steps each time, and some before and after.
func TestFuel(t *testing.T) {
	count := "load 0;false %d;load 0;const 1;binary 18;store 0;jump %d;return"
	for before := range 7 {
		text := strings.Repeat("jump %d;", before)
		for i := range before {
			text = strings.Replace(text, "%d", fmt.Sprint(i+1), 1)
		}
		text += fmt.Sprintf(count, before+7, before)
		c := samples.Assembled("unit p 1 1 0;" + text)
		inBlock := samples.Assembled("unit b 2 1 0;" + text + ";unit p 1 1 0;unit 0 0;return")
		for n := 2840; n < 2870; n++ {
			steps := before + 7*n + 3
			want, fault := of(0), api.FNone
			if steps > 20000 {
				want, fault = of(n), api.FFuel
			}
			expectScan(t, text, c, 0, of(n), 0, want, fault, min(steps, 20000))
			want, fault = of(0), api.FNone
			if steps+2 > 20000 {
				want, fault = of(n), api.FFuel
			}
			expectScan(t, text, inBlock, 1, of(n), 0, want, fault, min(steps+2, 20000))
		}
	}
}

func TestVisited(t *testing.T) {
	for _, x := range []struct {
		text   string
		before []int
		want   string
	}{
		{"return", of(0), "1"}, {"load 0;false 4;const 5;store 0;return", of(0), "11001"}, {"load 0;false 4;const 5;store 0;return", of(1), "11111"}, {"jump 0;return", of(1), "10"}, {"const 0;jump 4;drop;return;load 0;binary 20;jump 2", of(1), "1111111"},
		// An instruction with a fault is executed, and one that comes after too many steps is not.
		{"const 0;jump 4;drop;return;load 0;binary 20;jump 2", of(0), "1100110"}, {"load 0;loadx 0 1;drop;return", of(1), "1100"}, {"load 0;unit 0 0;drop;return", of(1), "1111"}, {"load 0;unit 0 0;drop;return", of(-5), "1100"}, {"load 0;call 1;drop;return", of(0), "1100"}, {"load 0;call 1;drop;return", of(1), "1111"},
	} {
		c := samples.Assembled("unit b 2 1 0;load 0;loadx 0 1;drop;return;unit f 3 2 1;load 1;load 1;binary 20;store 0;return;unit p 1 1 0;" + x.text)
		if x.before[0] == 1 {
			// The block has a fault if the first cell is no position.
			x.before = of(1)
			c.Units[0].Code[1].B = 1
		}
		visited, _, _, err := machine.Visited(c, 2, x.before, 0)
		want := x.want
		if strings.Contains(x.text, "unit") {
			want = "1100"
			if x.before[0] == 0 {
				want = "1111"
			}
		}
		got := ""
		for _, is := range visited {
			got += map[bool]string{false: "0", true: "1"}[is]
		}
		if got != want || err != api.OK {
			t.Errorf("%s with %v: %s, %d; want %s", x.text, x.before, got, err, want)
		}
	}
	// 20000 steps end before the place that is never executed.
	c := samples.Assembled("unit p 1 1 0;" + strings.Repeat("const 1;drop;", 500) + "const 1;false 0;jump 0")
	visited, _, fault, err := machine.Visited(c, 0, of(0), 0)
	if fault != api.FFuel || err != api.OK || len(visited) != 1003 || slices.Contains(visited, false) {
		t.Errorf("%d, %d, %v", fault, err, visited)
	}
}

// TestModel holds scans of random codes against a second machine.
func TestModel(t *testing.T) {
	t.Parallel()
	r := rand.New(rand.NewSource(1))
	m := samples.New(r.Intn)
	found := map[int]int{}
	for range 4000 {
		m.Size = 1 + r.Intn(8)
		c := m.Code()
		for unit, u := range c.Units {
			if u.Kind == api.UFunction {
				compareCalls(t, r, m, c, unit, found)
				continue
			}
			cells := make([]int, u.Cells)
			for i := range cells {
				cells[i] = m.Value(api.KInt)
			}
			now := r.Intn(100)
			want, fault, executed := scan(c, unit, cells, now)
			steps := len(executed)
			if fault == api.FZero || fault == api.FIndex {
				steps--
			}
			text, _ := code.Text(c)
			expectScan(t, text, c, unit, cells, now, want, fault, steps)
			places := make([]bool, len(u.Code))
			for _, x := range executed {
				if x[0] == unit {
					places[x[1]] = true
				}
			}
			if visited, _, _, _ := machine.Visited(c, unit, cells, now); !slices.Equal(visited, places) {
				t.Errorf("%s\nunit %d: visited %v; want %v", text, unit, visited, places)
			}
			if timed, _ := code.Timed(c, unit); !timed {
				expectScan(t, text, c, unit, cells, api.MaxTime-now, want, fault, steps)
			}
			found[fault]++
			if t.Failed() {
				return
			}
		}
	}
	if found[api.FNone] < 1000 || found[api.FZero] < 30 || found[api.FIndex] < 100 || found[api.FFuel] < 100 || found[-1] < 500 {
		t.Errorf("%v", found)
	}
}

// compareCalls holds the call of a function against the second machine.
func compareCalls(t *testing.T, r *rand.Rand, m *samples.Maker, c api.Code, unit int, found map[int]int) {
	t.Helper()
	u := c.Units[unit]
	cells := make([]int, u.Cells)
	for i := range u.Args {
		cells[1+i] = m.Value(api.KInt)
	}
	args := slices.Clone(cells[1 : 1+u.Args])
	after, want, _ := scan(c, unit, cells, 0)
	n, fault, err := machine.Call(c, unit, args)
	if want != api.FNone {
		after[0] = 0
	}
	if n != after[0] || fault != want || err != api.OK || !slices.Equal(args, cells[1:1+u.Args]) {
		text, _ := code.Text(c)
		t.Errorf("%s\nCall of %d with %v: %d, %d, %d; want %d, %d", text, unit, args, n, fault, err, after[0], want)
	}
	found[-1]++
}

func TestRun(t *testing.T) {
	// Each scan adds the first cell to the second one, and divides 100 by the third one.
	c := samples.Assembled("unit p 1 4 0;load 0;load 1;binary 17;store 1;const 100;load 2;binary 20;store 3;return")
	for _, x := range []struct {
		cells     []int
		positions []int
		inputs    [][]int
		want      [][]int
		fault     int
	}{
		{of(1, 2, 3, 4), nil, nil, nil, api.FNone}, {of(1, 2, 3, 4), of(0), nil, nil, api.FNone}, {of(1, 2, 3, 4), nil, of([]int{}, nil), of(of(1, 3, 3, 33), of(1, 4, 3, 33)), api.FNone},
		{of(1, 2, 3, 4), of(0), of(of(5), of(-6), of(5)), of(of(5, 7, 3, 33), of(-6, 1, 3, 33), of(5, 6, 3, 33)), api.FNone}, {of(1, 2, 3, 4), of(0, 2), of(of(5, 4), of(7, 50)), of(of(5, 7, 4, 25), of(7, 14, 50, 2)), api.FNone}, {of(1, 2, 3, 4), of(1, 3), of(of(5, 4)), of(of(1, 6, 3, 33)), api.FNone},
		{of(1, 2, 3, 4), of(2), of(of(5), of(0), of(5)), of(of(1, 3, 5, 20)), api.FZero}, {of(1, 2, 3, 4), of(2), of(of(0)), nil, api.FZero}, {of(1, 2, 3, 4), of(0, 1, 2, 3), of(of(-1<<31, -1, 1, 1<<31-1)), of(of(-1<<31, 1<<31-1, 1, 100)), api.FNone},
	} {
		times := make([]int, len(x.inputs))
		cells, positions := slices.Clone(x.cells), slices.Clone(x.positions)
		got, fault, err := machine.Run(c, 0, cells, positions, x.inputs, times)
		if !slices.EqualFunc(got, x.want, slices.Equal[[]int]) || fault != x.fault || err != api.OK || !slices.Equal(cells, x.cells) || !slices.Equal(positions, x.positions) {
			t.Errorf("%v, %v, %v: %v, %d, %d; want %v, %d", x.cells, x.positions, x.inputs, got, fault, err, x.want, x.fault)
		}
		for i := range got {
			got[i][0] = 99
			if i+1 < len(got) && got[i+1][0] == 99 {
				t.Errorf("%v shares cells", x.inputs)
			}
		}
	}
	// The scans have their times.
	clock := samples.Assembled("unit p 1 1 0;load 0;now;binary 17;store 0;return")
	got, _, err := machine.Run(clock, 0, of(0), nil, make([][]int, 4), of(0, 5, 5, api.MaxTime))
	if !slices.EqualFunc(got, of(of(0), of(5), of(10), of(api.MaxTime+10)), slices.Equal[[]int]) || err != api.OK {
		t.Errorf("%v, %d", got, err)
	}
	if got, fault, err := machine.Run(clock, 0, of(5), of(0), of(of(1<<31-1)), of(1)); len(got) != 1 || got[0][0] != -1<<31 || fault != api.FNone || err != api.OK {
		t.Errorf("%v, %d, %d", got, fault, err)
	}
}

// TestRuns holds runs of random codes against their scans.
func TestRuns(t *testing.T) {
	t.Parallel()
	r := rand.New(rand.NewSource(2))
	m := samples.New(r.Intn)
	for range 400 {
		c := m.Code()
		unit := len(c.Units) - 1
		if c.Units[unit].Kind == api.UFunction {
			continue
		}
		cells := make([]int, c.Units[unit].Cells)
		var positions []int
		for i := range cells {
			cells[i] = m.Value(api.KInt)
			if r.Intn(3) == 0 {
				positions = append(positions, i)
			}
		}
		var inputs, want [][]int
		var times []int
		at, fault := slices.Clone(cells), api.FNone
		for i := range 6 {
			l := make([]int, len(positions))
			for k, position := range positions {
				l[k] = m.Value(api.KInt)
				at[position] = l[k]
			}
			inputs, times = append(inputs, l), append(times, 10*i+r.Intn(10))
			if fault == api.FNone {
				at, fault, _ = machine.Scan(c, unit, at, times[i])
				if fault == api.FNone {
					want = append(want, slices.Clone(at))
				}
			}
		}
		got, found, err := machine.Run(c, unit, cells, positions, inputs, times)
		if !slices.EqualFunc(got, want, slices.Equal[[]int]) || found != fault || err != api.OK {
			text, _ := code.Text(c)
			t.Fatalf("%s\n%v, %v, %v: %v, %d, %d; want %v, %d", text, cells, positions, inputs, got, found, err, want, fault)
		}
	}
}

// expectErrors checks what all functions say of a scan of a unit that has no result.
func expectErrors(t *testing.T, c api.Code, unit int, cells []int, now int, want api.Errno) {
	t.Helper()
	after, f1, e1 := machine.Scan(c, unit, cells, now)
	visited, l, f2, e2 := machine.Visited(c, unit, cells, now)
	steps, e3 := machine.Steps(c, unit, cells, now)
	if e1 != want || e2 != want || e3 != want || len(after)+f1+len(visited)+len(l)+f2+steps > 0 {
		t.Errorf("unit %d, %v at %d: %v, %d, %d; %v, %v, %d, %d; %d, %d; want %d", unit, cells, now, after, f1, e1, visited, l, f2, e2, steps, e3, want)
	}
	if now != 0 {
		return
	}
	if all, fault, err := machine.Run(c, unit, cells, nil, make([][]int, 1), of(0)); err != want || len(all)+fault > 0 {
		t.Errorf("unit %d, %v: Run: %v, %d, %d; want %d", unit, cells, all, fault, err, want)
	}
}

func expectRunError(t *testing.T, c api.Code, positions []int, inputs [][]int, times []int, want api.Errno) {
	t.Helper()
	all, fault, err := machine.Run(c, 0, of(1, 2), positions, inputs, times)
	if err != want || want != api.OK && len(all)+fault > 0 {
		t.Errorf("%v, %v, %v: %v, %d, %d; want %d", positions, inputs, times, all, fault, err, want)
	}
}

func TestErrors(t *testing.T) {
	c := samples.Assembled("unit p 1 2 0;return;unit b 2 2 0;return;unit f 3 3 2;return")
	for _, unit := range of(2, 3, -1, math.MaxInt, math.MinInt) {
		expectErrors(t, c, unit, of(1, 2), 0, api.ErrArg)
		expectErrors(t, c, unit, of(1, 2, 3), 0, api.ErrArg)
	}
	for _, cells := range of(nil, of(1), of(1, 2, 3), of(1, 1<<31), of(-1<<31-1, 1), of(math.MaxInt, math.MinInt)) {
		expectErrors(t, c, 0, cells, 0, api.ErrArg)
		expectErrors(t, c, 1, cells, 0, api.ErrArg)
	}
	for _, now := range of(-1, api.MaxTime+1, math.MaxInt, math.MinInt) {
		expectErrors(t, c, 0, of(1, 2), now, api.ErrArg)
	}
	expectScan(t, "p", c, 0, of(-1<<31, 1<<31-1), api.MaxTime, of(-1<<31, 1<<31-1), api.FNone, 1)
	for _, positions := range of(of(1, 0), of(0, 0), of(2), of(-1), of(0, 1, 2), of(math.MaxInt), of(math.MinInt)) {
		expectRunError(t, c, positions, of(make([]int, len(positions))), of(0), api.ErrArg)
		expectRunError(t, c, positions, nil, nil, api.ErrArg)
	}
	for _, times := range of(of(0), of(0, 1, 2), of(1, 0), of(-1, 0), of(0, api.MaxTime+1), nil) {
		expectRunError(t, c, of(0), of(of(1), of(1)), times, api.ErrArg)
	}
	for _, inputs := range of(of(of(1), of(1)), of(of(1, 2), of(1, 2, 3)), of(of(1, 2), nil), of(of(1, 2), of(1, 1<<31)), of(of(-1<<31-1, 2), of(1, 2))) {
		expectRunError(t, c, of(0, 1), inputs, of(0, 0), api.ErrArg)
	}
	expectRunError(t, c, of(0, 1), of(of(1, 2), of(1<<31-1, -1<<31)), of(0, 0), api.OK)
	for _, args := range of(nil, of(1), of(1, 2, 3), of(1, 1<<31), of(-1<<31-1, 1)) {
		expectCallError(t, c, 2, args, api.ErrArg)
	}
	for _, unit := range of(0, 1, 3, -1, math.MaxInt, math.MinInt) {
		expectCallError(t, c, unit, of(1, 2), api.ErrArg)
		expectCallError(t, c, unit, nil, api.ErrArg)
	}
}

func expectCallError(t *testing.T, c api.Code, unit int, args []int, want api.Errno) {
	t.Helper()
	if n, fault, err := machine.Call(c, unit, args); n != 0 || fault != 0 || err != want {
		t.Errorf("Call of %d with %v: %d, %d, %d; want %d", unit, args, n, fault, err, want)
	}
}

// TestNotValid has codes that are not valid, which comes before everything else.
func TestNotValid(t *testing.T) {
	for _, c := range of(api.Code{}, api.Code{Units: make([]api.UnitCode, 1)}, samples.Assembled("unit p 1 1 0;load 1;drop;return"), samples.Assembled("unit p 1 1 0;drop;return"), samples.Assembled("unit p 1 2 0;load 0"), samples.Assembled("unit p 1 2 0;return;unit p 1 2 0;return"), samples.Assembled("unit p 1 2 0;unit 0 0;return"), samples.Assembled("unit f 3 2 1;load 1;call 0;store 0;return")) {
		for _, unit := range of(0, 1, -1) {
			for _, cells := range of(nil, of(1, 2)) {
				expectErrors(t, c, unit, cells, 0, api.ErrCode)
				expectErrors(t, c, unit, cells, -1, api.ErrCode)
				expectCallError(t, c, unit, cells, api.ErrCode)
			}
		}
		if all, fault, err := machine.Run(c, 5, nil, of(7), of(of(1, 2, 3)), nil); err != api.ErrCode || len(all)+fault > 0 {
			t.Errorf("Run: %v, %d, %d", all, fault, err)
		}
	}
}
