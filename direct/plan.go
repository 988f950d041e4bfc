package direct

import (
	"winch/api"
	"winch/chart"
	"winch/diagram"
	"winch/types"
)

// plan is what is known of a unit, or a standard block, before it is executed.
type plan struct {
	name       string
	isStandard bool
	unit       api.Unit
	places     map[string]place
	size       int
	// hidden is where the hidden cells are.
	hidden int
	// first has the cells that a function has at first, args the positions of those that are its inputs.
	first, args []int
	// labels has the positions of the lines, rungs or steps of the body that have names.
	labels map[string]int
	// edges has the position of the first hidden cell of each rung.
	edges []int
	// order has the positions of the nodes of a diagram in its order.
	order []int
	flat  api.Chart
}

// place is where the cells of a variable begin, and its type.
type place struct {
	at int
	t  api.Type
}

// plan returns the plan of a unit.
func (en *engine) plan(unit int) *plan {
	return en.planOf(en.p.Units[unit].Name)
}

// planOf returns the plan of the unit, or the standard block, with a name.
func (en *engine) planOf(name string) *plan {
	pl, known := en.plans[name]
	if known {
		return pl
	}
	if l, is := types.Standard(name); is {
		pl = standardPlan(name, l)
	} else {
		pl = en.newPlan(en.units[name])
	}
	en.plans[name] = pl
	return pl
}

// standardPlan returns the plan of a standard block with some variables, each of which is one cell.
func standardPlan(name string, l []api.Var) *plan {
	pl := &plan{name: name, isStandard: true, places: map[string]place{}, size: len(l)}
	for i, v := range l {
		pl.places[v.Name] = place{i, v.Type}
	}
	return pl
}

func (en *engine) newPlan(unit int) *plan {
	u := en.p.Units[unit]
	starts, hidden, size, _ := types.Frame(en.p, unit)
	pl := &plan{name: u.Name, unit: u, places: map[string]place{}, size: size, hidden: hidden}
	for i, v := range u.Vars {
		pl.places[v.Name] = place{starts[i], v.Type}
		if v.Class == api.VInput {
			pl.args = append(pl.args, starts[i])
		}
	}
	if u.Kind == api.UFunction {
		// The result comes behind the variables.
		pl.places[u.Name] = place{size, api.Type{Kind: u.Result}}
		values, _ := types.Initial(en.p, unit)
		pl.first = append(values, 0)
	}
	pl.prepare()
	return pl
}

// prepare finds out what is needed of the body, by its language.
func (pl *plan) prepare() {
	switch b := pl.unit.Body; b.Lang {
	case api.InList:
		pl.labels = positions(b.List, func(x api.Line) string { return x.Label })
	case api.InLadder:
		pl.labels = positions(b.Rungs, func(x api.Rung) string { return x.Label })
		next := pl.hidden
		for _, x := range b.Rungs {
			pl.edges = append(pl.edges, next)
			next += edgesOf(x)
		}
	case api.InDiagram:
		pl.order, _ = diagram.Order(b.Nodes)
	case api.InChart:
		pl.flat, _ = chart.Flatten(b.Chart)
		pl.labels = positions(pl.flat.Steps, func(s api.Step) string { return s.Name })
	}
}

// positions returns the position of each member of a list by its name.
func positions[T any](l []T, name func(T) string) map[string]int {
	all := map[string]int{}
	for i, x := range l {
		all[name(x)] = i
	}
	return all
}

// inputKinds returns the kinds of the inputs of a function, each of which is one cell.
func inputKinds(u api.Unit) []int {
	var l []int
	for _, v := range u.Vars {
		if v.Class == api.VInput {
			l = append(l, v.Type.Kind)
		}
	}
	return l
}
