package code_test

import (
	"fmt"
	"math"
	"math/rand"
	"slices"
	"testing"

	"winch/api"
	"winch/code"
	"winch/internal/samples"
)

func TestFlow(t *testing.T) {
	for _, x := range []struct {
		text string
		// depths are those before each place, -1 if it can't be reached.
		depths []int
	}{
		{"return", of(0)}, {"return;return", of(0, -1)}, {"jump 0", of(0)}, {"load 0;unary 6;store 1;return", of(0, 1, 1, 0)}, {"jump 2;drop;return", of(0, -1, 0)}, {"jump 2;jump 1;return", of(0, -1, 0)},
		{"load 0;false 4;const 1;jump 5;const 2;store 1;return", of(0, 1, 0, 1, 0, 1, 0)}, {"load 0;false 4;return;drop;load 1;drop;return;now;return", of(0, 1, 0, -1, 0, 1, 0, -1, -1)}, {"now;load 0;pick 1;put 0;storex 0 2;return", of(0, 1, 2, 3, 2, 0)}, {"const 1;loadx 0 2;const 5;const 6;std 1;binary 8;drop;jump 0", of(0)[:0]},
		{"const 1;loadx 0 2;const 5;const 6;std 1;drop;jump 0", of(0, 1, 1, 2, 3, 1, 0)}, {"jump 3;return;jump 1;load 0;false 2;jump 0", of(0, 0, 0, 0, 1, 0)}, {repeated("now", 60) + ";jump 60", append(slices.Collect(func(yield func(int) bool) {
			for i := 0; i < 60 && yield(i); i++ {
			}
		}), 60)},
	} {
		c := body(2, x.text)
		if len(x.depths) == 0 {
			expectCheck(t, x.text, c, false)
			continue
		}
		depths, e1 := code.Depths(c, 0)
		places, e2 := code.Reached(c, 0)
		var want []int
		for place, depth := range x.depths {
			if depth >= 0 {
				want = append(want, place)
			}
		}
		if !slices.Equal(depths, x.depths) || !slices.Equal(places, want) || e1 != api.OK || e2 != api.OK {
			t.Errorf("%s: depths %v, %d, places %v, %d; want %v, %v", x.text, depths, e1, places, e2, x.depths, want)
		}
	}
}

func TestTimed(t *testing.T) {
	for text, want := range map[string][]bool{
		"unit p 1 6 0;return": {false}, "unit p 1 6 0;now;drop;return": {true}, "unit p 1 6 0;return;now;drop;return": {false}, "unit p 1 6 0;load 0;false 4;now;drop;return": {true}, "unit p 1 6 0;load 0;drop;return": {false},
		// The standard blocks by their numbers.
		"unit p 1 6 0;part 0 0;return": {false}, "unit p 1 6 0;part 1 0;return": {false}, "unit p 1 6 0;part 2 0;return": {false}, "unit p 1 6 0;part 3 0;return": {false}, "unit p 1 6 0;part 4 0;return": {false}, "unit p 1 6 0;part 5 0;return": {false}, "unit p 1 6 0;part 6 0;return": {true}, "unit p 1 6 0;part 7 0;return": {true}, "unit p 1 6 0;part 8 0;return": {true}, "unit p 1 6 0;jump 2;part 8 0;return": {false}, "unit p 1 6 0;part 8 0;part 1 0;return": {true},
		// What a unit executes, over any number of others, where it can be reached.
		"unit f 3 1 0;now;store 0;return;unit p 1 1 0;call 0;drop;return;unit q 1 1 0;return": {true, true, false}, "unit b 2 6 0;part 6 0;return;unit p 1 6 0;unit 0 0;return": {true, true}, "unit b 2 6 0;part 6 0;return;unit p 1 6 0;return;unit 0 0;return": {true, false}, "unit b 2 6 0;return;part 6 0;return;unit p 1 6 0;unit 0 0;return": {false, false}, "unit f 3 1 0;now;store 0;return;unit p 1 1 0;jump 3;call 0;drop;return": {true, false},
		"unit f 3 1 0;now;store 0;return;unit g 3 1 0;return;unit b 2 1 0;call 0;drop;unit 2 0;return": nil, "unit f 3 1 0;now;store 0;return;unit g 3 1 0;return;unit b 2 1 0;call 0;drop;return;unit c 2 1 0;unit 2 0;return;unit d 2 1 0;call 1;drop;return;unit p 1 1 0;unit 3 0;return;unit q 1 1 0;unit 4 0;return": {true, false, true, true, false, true, false},
	} {
		c := assembled(text)
		if want == nil {
			expectCheck(t, text, c, false)
		}
		for unit, want := range want {
			if got, err := code.Timed(c, unit); got != want || err != api.OK {
				t.Errorf("%s: Timed(%d) = %v, %d; want %v", text, unit, got, err, want)
			}
		}
	}
	// Each unit executes the one before it twice, over 16 of them.
	text := "unit u0 3 1 0;now;drop;return"
	for i := range 15 {
		text += fmt.Sprintf(";unit u%d 3 1 0;%s;return", i+1, repeated(fmt.Sprintf("call %d;drop", i), 100))
	}
	if got, err := code.Timed(assembled(text), 15); !got || err != api.OK {
		t.Errorf("Timed over many units: %v, %d", got, err)
	}
}

// TestFlows holds the flow of random codes against the model of Check.
func TestFlows(t *testing.T) {
	r := rand.New(rand.NewSource(6))
	m := samples.New(r.Intn)
	timed := map[bool]int{}
	for range 2000 {
		c := m.Code()
		// model has whether each unit is timed.
		var model []bool
		for unit, u := range c.Units {
			there := depthsOf(c, unit)
			var places, depths []int
			is := false
			for place, x := range u.Code {
				depth, known := there[place]
				if !known {
					depths = append(depths, -1)
					continue
				}
				places, depths = append(places, place), append(depths, depth)
				is = is || x.Op == api.INow || x.Op == api.IPart && x.A >= 6 || (x.Op == api.ICall || x.Op == api.IUnit) && model[x.A]
			}
			model = append(model, is)
			timed[is]++
			got, e1 := code.Depths(c, unit)
			reached, e2 := code.Reached(c, unit)
			isTimed, e3 := code.Timed(c, unit)
			if !slices.Equal(got, depths) || !slices.Equal(reached, places) || isTimed != is || e1 != api.OK || e2 != api.OK || e3 != api.OK {
				t.Fatalf("%s\nunit %d: %v, %d; %v, %d; %v, %d; want %v, %v, %v", written(c), unit, got, e1, reached, e2, isTimed, e3, depths, places, is)
			}
			// Results are new memory.
			clear(got)
			if again, _ := code.Depths(c, unit); !slices.Equal(again, depths) {
				t.Fatalf("Depths again: %v; want %v", again, depths)
			}
		}
	}
	if timed[true] < 300 || timed[false] < 300 {
		t.Errorf("%v", timed)
	}
}

// depthsOf returns the depths before all places of a unit that can be reached.
func depthsOf(c api.Code, unit int) map[int]int {
	there := map[int]int{}
	l := c.Units[unit].Code
	var walk func(place, depth int)
	walk = func(place, depth int) {
		if _, is := there[place]; is {
			return
		}
		there[place] = depth
		_, change, _ := needs(c, unit, l[place])
		for _, next := range of(place+1, l[place].A) {
			isNext := l[place].Op != api.IJump && l[place].Op != api.IReturn
			isTarget := l[place].Op == api.IJump || l[place].Op == api.IFalse
			if next == place+1 && isNext || next == l[place].A && isTarget {
				walk(next, depth+change)
			}
		}
	}
	walk(0, 0)
	return there
}

func TestErrors(t *testing.T) {
	good := body(2, "load 0;store 1;return")
	for _, x := range []struct {
		c    api.Code
		unit int
		want api.Errno
	}{
		{good, 0, api.OK}, {good, -1, api.ErrArg}, {good, 1, api.ErrArg}, {good, math.MaxInt, api.ErrArg}, {good, math.MinInt, api.ErrArg}, {api.Code{}, 0, api.ErrCode}, {api.Code{}, -1, api.ErrCode}, {body(2, "drop;return"), 0, api.ErrCode}, {body(2, "now;drop"), 5, api.ErrCode},
	} {
		depths, e1 := code.Depths(x.c, x.unit)
		places, e2 := code.Reached(x.c, x.unit)
		is, e3 := code.Timed(x.c, x.unit)
		if e1 != x.want || e2 != x.want || e3 != x.want || x.want != api.OK && (len(depths)+len(places) > 0 || is) {
			t.Errorf("%v, %d: %v, %d; %v, %d; %v, %d; want %d", x.c, x.unit, depths, e1, places, e2, is, e3, x.want)
		}
	}
}
