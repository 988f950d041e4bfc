package check

import (
	"maps"
	"slices"

	"winch/api"
	"winch/chart"
)

// ring checks that a unit, if it is a function, does not call itself.
func (s *survey) ring(unit int) {
	if s.p.Units[unit].Kind != api.UFunction {
		return
	}
	reached := map[int]bool{}
	var follow func(at int)
	follow = func(at int) {
		for called := range s.functions(at) {
			failIf(called == unit, api.ErrRing)
			if !reached[called] {
				reached[called] = true
				follow(called)
			}
		}
	}
	follow(unit)
}

// functions returns the positions of the functions that the expressions of a unit call, as far as there are such functions.
func (s *survey) functions(unit int) map[int]bool {
	found := map[int]bool{}
	add := func(e api.Expr) {
		at, known := s.named[e.S]
		if e.Op == api.ECall && known && s.p.Units[at].Kind == api.UFunction && !isStandardFunction(e.S) {
			found[at] = true
		}
	}
	visitor(add).body(s.p.Units[unit].Body)
	return found
}

// calls returns the positions of the functions and blocks that a unit of a sound project calls or has as variables, ascending.
func (s *survey) calls(unit int) []int {
	found := s.functions(unit)
	for _, v := range s.p.Units[unit].Vars {
		if at, known := s.named[v.Type.Block]; known {
			found[at] = true
		}
	}
	return slices.Sorted(maps.Keys(found))
}

// order returns the positions of all units of a sound project, each one after all that it calls.
func (s *survey) order() []int {
	var calls [][]int
	for unit := range s.p.Units {
		calls = append(calls, s.calls(unit))
	}
	var positions []int
	done := map[int]bool{}
	isMissing := func(at int) bool { return !done[at] }
	for range s.p.Units {
		for at := range s.p.Units {
			if !done[at] && !slices.ContainsFunc(calls[at], isMissing) {
				positions = append(positions, at)
				done[at] = true
				break
			}
		}
	}
	return positions
}

// visitor visits expressions, each one before those in it.
type visitor func(api.Expr)

func (visit visitor) expressions(l ...api.Expr) {
	for _, e := range l {
		visit(e)
		visit.expressions(e.Args...)
	}
}

func (visit visitor) statements(l []api.Stmt) {
	for _, x := range l {
		visit.expressions(x.Index...)
		visit.expressions(x.Args...)
		visit.statements(x.Body)
		for _, a := range x.Arms {
			visit.expressions(a.If...)
			visit.statements(a.Body)
		}
		visit.statements(x.Other)
	}
}

func (visit visitor) power(p api.Power) {
	visit.expressions(p.Arg...)
	visit.expressions(p.Args...)
	for _, part := range p.Parts {
		visit.power(part)
	}
}

// body visits the expressions of a body. Of a chart they are those of the flattened one; there are none if it can't be flattened.
func (visit visitor) body(b api.Body) {
	visit.statements(b.Text)
	for _, x := range b.List {
		visit.expressions(x.Arg...)
	}
	for _, x := range b.Rungs {
		visit.power(x.Power)
	}
	for _, n := range b.Nodes {
		for _, p := range n.Pins {
			visit.expressions(p.Arg...)
		}
	}
	flat, _ := chart.Flatten(b.Chart)
	for _, s := range flat.Steps {
		for _, a := range s.Actions {
			visit.statements(a.Body)
		}
	}
	for _, t := range flat.Trans {
		visit.expressions(t.When)
	}
}
