package types

import (
	"slices"
	"strconv"

	"winch/api"
	"winch/chart"
	"winch/ladder"
)

// place is a cell, with the name that it has in its unit (empty: none), its value at first, and the position of the variable of
// the unit in which it is.
type place struct {
	name     string
	kind     int
	first    int
	variable int
}

// noVariable is the position of the variable of hidden cells.
const noVariable = -1

// plan says what a unit, or a part of it, consists of: where its variables start, and its hidden cells, and how many blocks are in
// each other.
type plan struct {
	places []place
	starts []int
	hidden int
	depth  int
}

// planner plans the units of a well formed project. Units on the way are those that are being planned, each one in the one before
// it; those that are done had no error, so that they need not be looked into again.
type planner struct {
	p     api.Project
	onWay map[int]bool
	done  map[int]plan
}

func newPlanner(p api.Project) *planner {
	return &planner{p: p, onWay: map[int]bool{}, done: map[int]plan{}}
}

// unit returns the plan of a unit.
func (pr *planner) unit(at int) (plan, api.Errno) {
	if pl, is := pr.done[at]; is {
		return pl, api.OK
	}
	u := pr.p.Units[at]
	pr.onWay[at] = true
	pl, err := pr.variables(u.Vars)
	delete(pr.onWay, at)
	if err != api.OK {
		return plan{}, err
	}
	hidden, fits := hiddenOf(u)
	pl.hidden = len(pl.places)
	pl.places = append(pl.places, hidden...)
	if !fits || len(pl.places) > api.MaxCells {
		return plan{}, api.ErrFull
	}
	pr.done[at] = pl
	return pl, api.OK
}

// variables returns the plan of variables, one after the other, up to the first error.
func (pr *planner) variables(l []api.Var) (plan, api.Errno) {
	var whole plan
	err := api.OK
search:
	for i, v := range l {
		add := func(name string, kind, first int) {
			whole.places = append(whole.places, place{name, kind, first, i})
		}
		whole.starts = append(whole.starts, len(whole.places))
		switch t := v.Type; {
		case t.Kind == api.KBlock:
			var inner plan
			inner, err = pr.block(t.Block)
			if err != api.OK {
				break search
			}
			for _, x := range inner.places {
				add(nameWithin(v.Name, x.name), x.kind, x.first)
			}
			whole.depth = max(whole.depth, inner.depth+1)
		case t.N > 0:
			for k := range t.N {
				add(v.Name+"["+strconv.Itoa(k)+"]", t.Kind, initial(v, k))
			}
		default:
			add(v.Name, t.Kind, initial(v, 0))
		}
	}
	if err != api.OK {
		return plan{}, err
	}
	return whole, api.OK
}

// block returns the plan of the block with a name, as it is in a unit on the way.
func (pr *planner) block(name string) (plan, api.Errno) {
	if l, is := Standard(name); is {
		return standardPlan(l), api.OK
	}
	at := slices.IndexFunc(pr.p.Units, func(u api.Unit) bool { return u.Name == name })
	switch {
	case at < 0:
		return plan{}, api.ErrName
	case pr.p.Units[at].Kind != api.UBlock:
		return plan{}, api.ErrKind
	case pr.onWay[at]:
		return plan{}, api.ErrRing
	}
	return pr.unit(at)
}

// standardPlan returns the plan of a standard block with some variables, whose locals have no names outside.
func standardPlan(l []api.Var) plan {
	var pl plan
	for _, v := range l {
		x := place{name: v.Name, kind: v.Type.Kind}
		if v.Class == api.VLocal {
			x.name = ""
		}
		pl.places = append(pl.places, x)
	}
	return pl
}

// nameWithin returns the name of a cell of a block that is a variable; none if it has none in the block.
func nameWithin(variable, name string) string {
	if name == "" {
		return ""
	}
	return variable + "." + name
}

// initial returns the value that the cell of a variable at a position has at first.
func initial(v api.Var, at int) int {
	if at < len(v.Init) {
		return v.Init[at]
	}
	return 0
}

// hiddenOf returns the hidden cells of a unit, and whether its body is not too much. A function has none, as none of its cells
// remain, but its body can be too much like any other.
func hiddenOf(u api.Unit) ([]place, bool) {
	hidden, fits := hiddenOfBody(u.Body)
	if u.Kind == api.UFunction {
		return nil, fits
	}
	return hidden, fits
}

func hiddenOfBody(b api.Body) ([]place, bool) {
	switch b.Lang {
	case api.InLadder:
		return hiddenOfLadder(b.Rungs)
	case api.InChart:
		return hiddenOfChart(b.Chart)
	}
	return nil, true
}

func hiddenOfLadder(l []api.Rung) ([]place, bool) {
	edges, _ := ladder.Edges(l)
	return slices.Repeat([]place{{kind: api.KBool, variable: noVariable}}, len(edges)), len(edges) <= api.MaxArray
}

// hiddenOfChart returns the cells of the steps of a flattened chart: first what they are, and then since when.
func hiddenOfChart(c api.Chart) ([]place, bool) {
	flat, err := chart.Flatten(c)
	var states, times []place
	for _, s := range flat.Steps {
		state := place{kind: api.KInt, variable: noVariable}
		if s.Initial {
			state.first = isNew
		}
		states = append(states, state)
		times = append(times, place{kind: api.KTime, variable: noVariable})
	}
	return append(states, times...), err == api.OK
}

// isNew is what the first hidden cell of an initial step is at first: it is active, and has not been entered yet.
const isNew = 2
