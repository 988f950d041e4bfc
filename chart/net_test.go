package chart_test

import (
	"fmt"
	"math"
	"math/rand"
	"slices"
	"strings"
	"testing"

	"winch/api"
	"winch/chart"
)

// expectNext checks what an evolution leads to.
func expectNext(t *testing.T, c api.Chart, active string, on []int, want string) {
	t.Helper()
	before := strings.Fields(active)
	got, err := chart.Next(c, before, on)
	if err != api.OK || !slices.Equal(got, strings.Fields(want)) || !slices.Equal(before, strings.Fields(active)) {
		t.Errorf("Next of %q with %v: %v, %d; want %q", active, on, got, err, want)
	}
}

func TestNext(t *testing.T) {
	c := read(t, "initial step a do while q; step b; from a to b when x; from b to a when y;")
	expectNext(t, c, "a", of(0), "b")
	expectNext(t, c, "a", nil, "a")
	expectNext(t, c, "a", of(1), "a")
	expectNext(t, c, "b", of(0, 1), "a")
	expectNext(t, c, "", of(0, 1), "")
	expectNext(t, c, "b a", of(0, 1), "a b")
	expectNext(t, c, "b a", of(0), "b")
	expectNext(t, c, "b a", nil, "a b")
	// The first transition that takes a step has it.
	c = read(t, "initial step a; step b; step c; step d; from a to b when x; from a to c when x; from b, a to d when x; from d to d when x; from d to a when x; from b, c to d, a when x; from a to d when x;")
	expectNext(t, c, "a", of(0, 1), "b")
	expectNext(t, c, "a", of(1, 2), "c")
	expectNext(t, c, "a b", of(1, 2), "b c")
	expectNext(t, c, "a b", of(2, 6), "d")
	expectNext(t, c, "a b", of(2), "d")
	expectNext(t, c, "a", of(2), "a")
	expectNext(t, c, "a b c", of(2, 5, 6), "c d")
	expectNext(t, c, "d c b", of(3, 4, 5), "a d")
	expectNext(t, c, "d", of(3), "d")
	expectNext(t, c, "d", of(4), "a")
	expectNext(t, c, "a d", of(0, 3), "b d")
	expectNext(t, c, "a d", of(4), "a")
	expectNext(t, c, "a d", of(0, 4), "a b")
	// What becomes active in an evolution was not so before: nothing takes it.
	expectNext(t, c, "a", of(0, 1, 2, 3, 4, 5, 6), "b")
	expectNext(t, c, "a b c d", of(0, 1, 2, 3, 4, 5, 6), "a b d")
	expectNext(t, c, "c d", of(3), "c d")
	// Steps and transitions are those of the flattened chart.
	c = read(t, "initial step a macro m; step b; from a to b when x; from b to a when y; macro m(i, o) step o; step i; from i to o when z; end;")
	expectNext(t, c, "a_i", of(0, 1), "a_i")
	expectNext(t, c, "a_i", of(2), "a_o")
	expectNext(t, c, "a_o", of(0, 2), "b")
	expectNext(t, c, "b", of(1), "a_i")
	expectNext(t, c, "b a_i a_o", of(0, 1, 2), "a_o a_i b")
}

func TestNextErrors(t *testing.T) {
	c := read(t, "initial step a macro m; step b; from a to b when x; from b to a when y; macro m(i, o) step o; step i; from i to o when z; end;")
	for _, x := range []struct {
		active []string
		on     []int
	}{
		{of("a"), nil}, {of("b", "b"), nil}, {of("a_i", "b", "a_o", "a_i"), nil}, {of(""), nil}, {of("i"), nil}, {of("b", "?"), nil}, {of("m"), nil}, {of("a_b"), nil}, {slices.Repeat(of("b"), 1<<20), nil},
		{of("b"), of(3)}, {of("b"), of(-1)}, {of("b"), of(0, 0)}, {of("b"), of(1, 0)}, {of("b"), of(0, 1, 2, 3)}, {of("b"), of(0, 2, 1)}, {of("b"), of(math.MaxInt)}, {of("b"), of(math.MinInt)}, {nil, of(3)}, {of("b"), slices.Repeat(of(0), 1<<20)}, {of("a"), of(3)},
	} {
		if got, err := chart.Next(c, x.active, x.on); err != api.ErrArg || len(got) != 0 {
			t.Errorf("Next of %.40q, %.20v: %v, %d", x.active, x.on[:min(9, len(x.on))], got, err)
		}
	}
}

// expectReached checks which steps a chart reaches, and whether it is safe.
func expectReached(t *testing.T, source, want string, safe bool) {
	t.Helper()
	c := read(t, source)
	got, e1 := chart.Reached(c)
	alone, e2 := chart.Alone(c)
	if e1 != api.OK || e2 != api.OK || !slices.Equal(got, strings.Fields(want)) || alone != safe {
		t.Errorf("%q: Reached %v, %d, Alone %v, %d; want %q, %v", source, got, e1, alone, e2, want, safe)
	}
}

func TestReached(t *testing.T) {
	expectReached(t, "initial step a do while q; step b; from a to b when x; from b to a when y;", "a b", true)
	expectReached(t, "initial step a; step b; step c; from a to b, c when true; from b to a when x;", "a b c", false)
	expectReached(t, "initial step a;", "a", true)
	expectReached(t, "step b; initial step a; step c; from b to c when x; from c to b when x;", "a", true)
	expectReached(t, "step b; initial step a; from a to b when false;", "b a", true)
	expectReached(t, "initial step a; step b; step c; step d; step e; from a to b, c when x; from b, c to a when x; from b, d to e when x;", "a b c", true)
	expectReached(t, "initial step a; initial step b; step c; from a to c when x; from b to c when x;", "a b c", false)
	expectReached(t, "initial step a; initial step b; from a to b when x;", "a b", false)
	expectReached(t, "initial step a; initial step b; from a to a when x; from b, a to a, b when x;", "a b", true)
	expectReached(t, "initial step a; initial step b; from b to a, b when x;", "a b", false)
	// Both of two steps become active only if the transitions to them fire together, or one after the other.
	expectReached(t, "initial step a; step b; step c; step d; from a to b when x; from a to c when x; from b, c to d when x;", "a b c", true)
	expectReached(t, "initial step a; initial step e; step b; step c; step d; from a to b when x; from e to c when x; from b, c to d when x;", "a e b c d", true)
	// Only if two transitions fire together, of which one takes what the other one gives, both of the steps that the last one wants are active.
	expectReached(t, "initial step a; initial step b; step c; step d; from a to b when x; from b, a to a when x; from b to c when x; from a, c to d when x;", "a b c d", false)
	expectReached(t, "initial step a macro m; step b; from a to b when x; macro m(i, o) step i; step o; step p; from p to o when x; end;", "a_i", true)
}

// net is a flattened chart in numbers, each of whose bits is a step.
type net struct {
	chart    api.Chart
	from, to []uint32
	initial  uint32
}

func newNet(c api.Chart) net {
	n := net{chart: c}
	bits := map[string]uint32{}
	for i, s := range c.Steps {
		bits[s.Name] = 1 << i
		if s.Initial {
			n.initial |= 1 << i
		}
	}
	for _, x := range c.Trans {
		from, to := uint32(0), uint32(0)
		for _, name := range x.From {
			from |= bits[name]
		}
		for _, name := range x.To {
			to |= bits[name]
		}
		n.from, n.to = append(n.from, from), append(n.to, to)
	}
	return n
}

// next returns what a situation leads to if the conditions are true that are bits of on, and whether that is safe.
func (n net) next(before, on uint32) (uint32, bool) {
	taken, given := uint32(0), uint32(0)
	var fired []int
	for i := range n.from {
		if on>>i&1 == 1 && before&n.from[i] == n.from[i] && taken&n.from[i] == 0 {
			fired = append(fired, i)
			taken |= n.from[i]
			given |= n.to[i]
		}
	}
	safe := true
	for _, i := range fired {
		safe = safe && before&^taken&n.to[i] == 0
	}
	return before&^taken | given, safe
}

// names returns the steps of a situation.
func (n net) names(s uint32) []string {
	var l []string
	for i, x := range n.chart.Steps {
		if s>>i&1 == 1 {
			l = append(l, x.Name)
		}
	}
	return l
}

// situations returns all situations that are reached, and whether all of them are safe.
func (n net) situations() ([]uint32, bool) {
	l := of(n.initial)
	known := map[uint32]bool{n.initial: true}
	safe := true
	for i := 0; i < len(l); i++ {
		for on := range uint32(1) << len(n.from) {
			s, isSafe := n.next(l[i], on)
			safe = safe && isSafe
			if !known[s] {
				known[s] = true
				l = append(l, s)
			}
		}
	}
	return l, safe
}

func TestRandomEvolution(t *testing.T) {
	r := rand.New(rand.NewSource(7))
	good, unsafe := 0, 0
	for range 4000 {
		c := randomChart(r, 0)
		f, err := chart.Flatten(c)
		if err != api.OK || len(f.Trans) > 8 {
			continue
		}
		good++
		n := newNet(f)
		for range 5 {
			before, on := r.Uint32()&(1<<len(f.Steps)-1), r.Uint32()&(1<<len(f.Trans)-1)
			var conditions []int
			for i := range f.Trans {
				if on>>i&1 == 1 {
					conditions = append(conditions, i)
				}
			}
			want, _ := n.next(before, on)
			expectNext(t, c, strings.Join(n.names(before), " "), conditions, strings.Join(n.names(want), " "))
		}
		all, safe := n.situations()
		reached := uint32(0)
		for _, s := range all {
			reached |= s
		}
		got, e1 := chart.Reached(c)
		alone, e2 := chart.Alone(c)
		if e1 != api.OK || e2 != api.OK || !slices.Equal(got, n.names(reached)) || alone != safe {
			t.Fatalf("%v: Reached %v, %d, Alone %v, %d; want %v, %v", f, got, e1, alone, e2, n.names(reached), safe)
		}
		if !safe {
			unsafe++
		}
	}
	if good < 1000 || unsafe < 100 || unsafe > good-100 {
		t.Errorf("%d charts, %d of them not safe", good, unsafe)
	}
}

// expectFull checks whether a chart has too many situations or transitions.
func expectFull(t *testing.T, c api.Chart, want api.Errno) {
	t.Helper()
	reached, e1 := chart.Reached(c)
	alone, e2 := chart.Alone(c)
	if e1 != want || e2 != want || want != api.OK && (len(reached) != 0 || alone) {
		t.Errorf("Reached %v, %d, Alone %v, %d; want %d", reached, e1, alone, e2, want)
	}
}

// TestManySituations has a chart with 2000 situations, and one with one more.
func TestManySituations(t *testing.T) {
	var c api.Chart
	for i := range 22 {
		c.Steps = append(c.Steps, api.Step{Name: fmt.Sprint("x", i), Initial: i%2 == 0})
	}
	n := newNet(c)
	for _, x := range [][2]uint32{{0x1, 0x2}, {0x4, 0x88}, {0x10, 0x20}, {0x40, 0x80}, {0x10100, 0x10600}, {0x400, 0x80800}, {0x1000, 0x2000}, {0x104008, 0x208000}, {0x10000, 0x21000}, {0x40100, 0x80100}, {0x100000, 0x200000}} {
		c.Trans = append(c.Trans, api.Trans{From: n.names(x[0]), To: n.names(x[1]), When: expr(t, "x")})
	}
	all, _ := newNet(c).situations()
	if len(all) != api.MaxPlaces {
		t.Fatalf("%d situations", len(all))
	}
	expectFull(t, c, api.OK)
	// A situation with steps that are together in no other one leads to one more.
	isLast := func(s uint32) bool {
		return !slices.ContainsFunc(all, func(other uint32) bool { return other != s && other&s == s })
	}
	last := all[slices.IndexFunc(all, isLast)]
	c.Trans = append(c.Trans, api.Trans{From: n.names(last), To: of("z"), When: expr(t, "x")})
	c.Steps = append(c.Steps, step("z"))
	if more, _ := newNet(c).situations(); len(more) != api.MaxPlaces+1 {
		t.Fatalf("%d situations", len(more))
	}
	expectFull(t, c, api.ErrFull)
}

func TestManyTransitions(t *testing.T) {
	row := func(n int) string { return "initial step a;" + strings.Repeat("from a to a when x;", n) }
	expectFull(t, read(t, row(12)), api.OK)
	expectFull(t, read(t, row(13)), api.ErrFull)
	expectFull(t, read(t, row(100)), api.ErrFull)
	expectFull(t, read(t, row(11)+"step s macro m; macro m(b, b) step b; from b to b when x; end;"), api.OK)
	expectFull(t, read(t, row(12)+"step s macro m; macro m(b, b) step b; from b to b when x; end;"), api.ErrFull)
	expectFull(t, read(t, row(12)+"step s; macro m(b, b) step b; from b to b when x; end;"), api.OK)
	expectNext(t, read(t, row(100)), "a", of(5, 99), "a")
	// As many evolutions as there can be.
	var many strings.Builder
	for i := range 12 {
		many.WriteString(fmt.Sprintf("initial step a%d; step b%d; from a%d to a%d, b%d when x;", i, i, i, i, min(i, 9)))
	}
	expectFull(t, read(t, many.String()), api.OK)
	expectFull(t, read(t, strings.Replace(many.String(), "b9 when", "b11 when", 1)), api.ErrFull)
}
