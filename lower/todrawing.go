package lower

import (
	"slices"

	"winch/api"
	"winch/types"
)

// canLadder reports whether the statements of a body can be a ladder. (The name of an array alone has no kind.)
func canLadder(w *work) bool {
	isOther := func(x api.Stmt) bool {
		return x.Op != api.SSet || w.kind(name(x.Name)) != api.KBool || !isPower(x.Args[0])
	}
	return !slices.ContainsFunc(w.unit.Body.Text, isOther)
}

// isPower reports whether an expression of the kind KBool can be an element of a ladder.
func isPower(e api.Expr) bool {
	switch {
	case e.Op == api.EConst || e.Op == api.EName || isComparison(e):
		return true
	case e.Op == api.ENot || e.Op == api.EOr || e.Op == api.EAnd:
		isOther := func(x api.Expr) bool { return !isPower(x) }
		return !slices.ContainsFunc(e.Args, isOther)
	}
	return false
}

func isComparison(e api.Expr) bool {
	return e.Op >= api.EEq && e.Op <= api.EGe
}

// toLadder makes the body a ladder, each statement a rung.
func (w *work) toLadder() {
	b := api.Body{Lang: api.InLadder}
	for _, x := range w.unit.Body.Text {
		coil := api.Coil{Mark: api.MPlain, Name: x.Name}
		b.Rungs = append(b.Rungs, api.Rung{Power: power(x.Args[0], false), Coils: of(coil)})
	}
	w.unit.Body = b
}

// power returns the element that lets power through if an expression is true, or, if it is negated, false.
func power(e api.Expr, isNegated bool) api.Power {
	switch {
	case e.Op == api.ENot:
		return power(e.Args[0], !isNegated)
	case e.Op == api.EOr || e.Op == api.EAnd:
		op := api.PParallel
		if (e.Op == api.EAnd) != isNegated {
			op = api.PSeries
		}
		var parts []api.Power
		for _, x := range e.Args {
			part := power(x, isNegated)
			if part.Op == op {
				parts = append(parts, part.Parts...)
			} else {
				parts = append(parts, part)
			}
		}
		return api.Power{Op: op, Parts: parts}
	case e.Op == api.EName && isNegated:
		return api.Power{Op: api.PContact, Mark: api.MNot, Name: e.S}
	case e.Op == api.EName:
		return api.Power{Op: api.PContact, Mark: api.MPlain, Name: e.S}
	case e.Op == api.EConst && (e.N == 1) != isNegated:
		return api.Power{Op: api.PTrue}
	case e.Op == api.EConst:
		return api.Power{Op: api.PCompare, Arg: of(truth(false))}
	}
	return api.Power{Op: api.PCompare, Arg: of(notIf(isNegated, e))}
}

// canDiagram reports whether the statements of a body can be a diagram.
func canDiagram(w *work) bool {
	isOther := func(x api.Stmt) bool {
		return x.Op == api.SSet && len(x.Index) > 0 || x.Op == api.SCall && w.output(x.Name) == "" || x.Op != api.SSet && x.Op != api.SCall
	}
	return !slices.ContainsFunc(w.unit.Body.Text, isOther)
}

// output returns the name of the first output of a block variable that is one cell; nothing, if there is none.
func (w *work) output(variable string) string {
	var block string
	for _, v := range w.unit.Vars {
		if v.Name == variable {
			block = v.Type.Block
		}
	}
	variables, _ := types.Standard(block)
	for _, u := range w.heads.Units {
		if u.Name == block {
			variables = u.Vars
		}
	}
	for _, v := range variables {
		if v.Class == api.VOutput && v.Type.Kind != api.KBlock && v.Type.N == 0 {
			return v.Name
		}
	}
	return ""
}

// toDiagram makes the body a diagram, each statement a node. No node takes from another one, so that they remain in their order.
func (w *work) toDiagram() {
	b := api.Body{Lang: api.InDiagram}
	for i, x := range w.unit.Body.Text {
		if x.Op == api.SSet {
			b.Nodes = append(b.Nodes, api.Node{Op: api.DOut, Name: x.Name, Pins: of(api.Pin{Arg: x.Args})})
			continue
		}
		node := api.Node{Number: i + 1, Op: api.DBlock, Name: x.Name, Out: w.output(x.Name)}
		for k, input := range x.Fields {
			node.Pins = append(node.Pins, api.Pin{Name: input, Arg: x.Args[k : k+1]})
		}
		b.Nodes = append(b.Nodes, node)
	}
	w.unit.Body = b
}
