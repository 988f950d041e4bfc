package diagram_test

import (
	"math"
	"math/rand"
	"reflect"
	"slices"
	"testing"

	"winch/api"
	"winch/diagram"
)

func TestOrder(t *testing.T) {
	for _, x := range []struct {
		source string
		want   []int
	}{
		{"", nil}, {"q := a;", of(0)}, {"q := :1; 1: not(a);", of(1, 0)}, {"1: not(a); q := :1;", of(0, 1)}, {"q := a; r := b; s := c;", of(0, 1, 2)},
		// After each node the first one that can come next does, and not the next one of the list.
		{"q := :1; 1: not(a); 2: not(b);", of(1, 0, 2)}, {"q := :1; r := :2; 2: not(:1); 1: not(a);", of(3, 0, 2, 1)}, {"3: not(:2); 2: not(:1); 1: not(a); q := b;", of(2, 1, 0, 3)}, {"1: and(:3, :2); q := :2; 2: not(a); 3: not(:2); r := b;", of(2, 1, 3, 0, 4)},
		{"1: and(:2, :3); 2: f(in := :4).q; 3: f(in := :4, pt := :5).q; q := :1; 4: f().q; 5: not(:4); r := :5;", of(4, 1, 5, 2, 0, 3, 6)}, {"0: not(:9); q := :9; 9: f().q; 0: f().q;", of(2, 0, 1, 3)}, {"1: and(/:2, /:2); 2: not(a);", of(1, 0)},
	} {
		if got, err := diagram.Order(nodes(t, x.source)); !slices.Equal(got, x.want) || err != api.OK {
			t.Errorf("Order of %q: %v, %d; want %v", x.source, got, err, x.want)
		}
	}
}

func TestTakers(t *testing.T) {
	l := nodes(t, "q := :1; 1: not(a); 2: and(:1, /:1); 3: f(in := b, pt := :2).q; r := /:3; 4: or(:2, :1); s := a; 7: f().q; 0: not(:7); 5: add(1, 2);")
	for number, want := range map[int][]int{1: of(0, 2, 5), 2: of(3, 5), 3: of(4), 4: nil, 5: nil, 7: of(8)} {
		if got, err := diagram.Takers(l, number); !slices.Equal(got, want) || err != api.OK {
			t.Errorf("Takers of %d: %v, %d; want %v", number, got, err, want)
		}
	}
	for _, number := range []int{0, 6, 8, 999, 1000, -1, -2, math.MaxInt, math.MinInt} {
		if got, err := diagram.Takers(l, number); len(got) != 0 || err != api.ErrNone {
			t.Errorf("Takers of %d: %v, %d", number, got, err)
		}
		if got, err := diagram.Takers(nil, number); len(got) != 0 || err != api.ErrNone {
			t.Errorf("Takers of %d in nothing: %v, %d", number, got, err)
		}
		if got, err := diagram.Takers(of(api.Node{}), number); len(got) != 0 || err != api.ErrArg {
			t.Errorf("Takers of %d in what is not well formed: %v, %d", number, got, err)
		}
	}
}

func TestNumbered(t *testing.T) {
	for source, want := range map[string]string{
		"": "", "q := a;": "q := a;", "7: not(a);": "1: not(a);", "q := :5; 5: not(a);": "1: not(a); q := :1;", "1: not(a); 2: and(:1, b);": "1: not(a); 2: and(:1, b);", "2: not(a); 1: and(:2, b);": "1: not(a); 2: and(:1, b);",
		"3: not(:2); 2: not(:1); 1: not(a); q := /:3;":                                        "1: not(a); 2: not(:1); 3: not(:2); q := /:3;",
		"10: and(:20, /:30); q := :10; 20: f(in := :30, pt := t#5).q; 30: not(a + 1);":        "1: not(a + 1); 2: f(in := :1, pt := t#5).q; 3: and(:2, /:1); q := :3;",
		"0: not(:9); q := :9; 9: f().q; 0: f().r; 8: not(:9); r := b; s := :8; 999: not(:8);": "1: f().q; 0: not(:1); q := :1; 0: f().r; 2: not(:1); r := b; s := :2; 3: not(:2);",
	} {
		got, err := diagram.Numbered(nodes(t, source))
		if !diagram.Same(got, nodes(t, want)) || err != api.OK {
			t.Errorf("Numbered of %q: %v, %d; want %q", source, got, err, want)
		}
	}
}

// stepwise returns the order of a well formed diagram as the chapter says it.
func stepwise(l []api.Node) []int {
	var order []int
	for len(order) < len(l) {
		for i := range l {
			if slices.Contains(order, i) {
				continue
			}
			all := true
			for _, p := range l[i].Pins {
				if p.From != 0 && !slices.ContainsFunc(order, func(j int) bool { return l[j].Number == p.From }) {
					all = false
				}
			}
			if all {
				order = append(order, i)
				break
			}
		}
	}
	return order
}

// TestOrderOfRandomDiagrams is about P6.3 and P6.4.
func TestOrderOfRandomDiagrams(t *testing.T) {
	r := rand.New(rand.NewSource(6))
	good, moved := 0, 0
	for range 20000 {
		l := randomDiagram(r)
		if diagram.Check(l) != api.OK {
			continue
		}
		good++
		order, err := diagram.Order(l)
		if err != api.OK || !slices.Equal(order, stepwise(l)) {
			t.Fatalf("Order(%v) = %v, %d; want %v", l, order, err, stepwise(l))
		}
		if !slices.IsSorted(order) {
			moved++
		}
		numbered, err := diagram.Numbered(l)
		if want := renumbered(l, order); err != api.OK || !reflect.DeepEqual(numbered, want) {
			t.Fatalf("Numbered(%v) = %v, %d; want %v", l, numbered, err, want)
		}
		again, err := diagram.Numbered(numbered)
		second, err2 := diagram.Order(numbered)
		if err != api.OK || err2 != api.OK || !reflect.DeepEqual(again, numbered) || !slices.IsSorted(second) || len(second) != len(l) {
			t.Fatalf("Numbered(%v) = %v, %d; Order %v, %d", numbered, again, err, second, err2)
		}
	}
	if good < 1000 || moved < 200 {
		t.Errorf("only %d good diagrams, %d in another order", good, moved)
	}
}

// renumbered returns a diagram in an order, with new numbers, each of which is looked for anew.
func renumbered(l []api.Node, order []int) []api.Node {
	next := 0
	number := func(old int) int {
		n := 0
		for _, i := range order {
			if l[i].Number != 0 {
				n++
			}
			if old != 0 && l[i].Number == old {
				return n
			}
		}
		return 0
	}
	var all []api.Node
	for _, i := range order {
		x := l[i]
		x.Pins = slices.Clone(x.Pins)
		if x.Number != 0 {
			next++
			x.Number = next
		}
		for j := range x.Pins {
			x.Pins[j].From = number(x.Pins[j].From)
		}
		all = append(all, x)
	}
	return all
}

// TestNewMemory is about the rule of effects: results share no memory, and arguments are not changed.
func TestNewMemory(t *testing.T) {
	source := "q := :5; 5: f(in := a + f(b), pt := /:7).q; 7: not(-a); r := n[1];"
	l, m := nodes(t, source), nodes(t, source)
	first, _ := diagram.Numbered(l)
	second, _ := diagram.Numbered(l)
	for _, n := range first {
		for _, p := range n.Pins {
			for _, e := range p.Arg {
				clear(e.Args)
			}
			clear(p.Arg)
		}
		clear(n.Pins)
	}
	clear(first)
	order, _ := diagram.Order(l)
	clear(order)
	takers, _ := diagram.Takers(l, 5)
	clear(takers)
	if !diagram.Same(l, m) {
		t.Errorf("%v was changed", l)
	}
	for _, n := range l {
		clear(n.Pins)
	}
	if want := nodes(t, "1: not(-a); 2: f(in := a + f(b), pt := /:1).q; q := :2; r := n[1];"); !diagram.Same(second, want) || !diagram.Same(m, nodes(t, source)) {
		t.Errorf("%v was changed", second)
	}
}
