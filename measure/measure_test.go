package measure_test

import (
	"slices"
	"testing"

	"winch/api"
	"winch/measure"
)

func name(s string) api.Expr { return api.Expr{Op: api.EName, S: s} }

func not(e api.Expr) api.Expr { return api.Expr{Op: api.ENot, Args: []api.Expr{e}} }

func TestMeter(t *testing.T) {
	var m measure.Meter
	if !m.Enter(3) || !m.Expression(not(name("a")), 2) || !m.Expressions([]api.Expr{name("a"), not(not(name("b")))}, 5) || m.Nodes() != 7 || m.Depth() != 7 {
		t.Errorf("%d nodes, depth %d", m.Nodes(), m.Depth())
	}
	if m.Expression(api.Expr{}, 1) || m.Expressions([]api.Expr{name("a"), not(name("if"))}, 1) {
		t.Error("wrong expressions")
	}
}

func TestLimits(t *testing.T) {
	for _, x := range []struct {
		count, depth int
		want         bool
	}{{1, 14, true}, {1, 15, false}, {500, 1, true}, {500, 14, true}, {501, 1, false}} {
		var m measure.Meter
		fits := true
		for range x.count {
			fits = m.Enter(x.depth) && fits
		}
		if fits != x.want || m.Nodes() != x.count || m.Depth() != x.depth {
			t.Errorf("%v: %v, %d, %d", x, fits, m.Nodes(), m.Depth())
		}
	}
	var m measure.Meter
	if !m.Expression(not(name("a")), 13) || m.Expression(not(name("a")), 14) {
		t.Error("the depth of operands")
	}
	var n measure.Meter
	if call := (api.Expr{Op: api.ECall, S: "f", Args: slices.Repeat([]api.Expr{name("a")}, 1<<20)}); n.Expression(call, 1) || n.Nodes() != 501 {
		t.Errorf("%d nodes of a large expression", n.Nodes())
	}
}

func TestAdd(t *testing.T) {
	var m measure.Meter
	if !m.Add(0) || !m.Enter(1) || !m.Add(499) || m.Nodes() != 500 || m.Depth() != 1 || m.Add(1) || m.Enter(1) || m.Nodes() != 502 {
		t.Errorf("%d nodes, depth %d", m.Nodes(), m.Depth())
	}
}

func TestAll(t *testing.T) {
	var seen []int
	visit := func(x, depth int) bool {
		seen = append(seen, x, depth)
		return x != 0
	}
	if !measure.All(nil, 7, visit) || !measure.All([]int{1, 2}, 7, visit) || measure.All([]int{3, 0, 4}, 8, visit) || !slices.Equal(seen, []int{1, 7, 2, 7, 3, 8, 0, 8}) {
		t.Errorf("%v", seen)
	}
}

func TestNames(t *testing.T) {
	for _, s := range []string{"", "a", "limit", "if", "A", "thirteen_byte", "a b"} {
		is := s == "a" || s == "limit"
		if measure.IsNameIf(true, s) != is || measure.IsNameIf(false, s) != (s == "") || measure.AreNames([]string{"x", s}) != is || measure.AreNames([]string{s, "x"}) != is {
			t.Errorf("%q", s)
		}
	}
	if !measure.AreNames(nil) {
		t.Error("no names")
	}
}
