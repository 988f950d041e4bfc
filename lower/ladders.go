package lower

import (
	"slices"

	"winch/api"
	"winch/ladder"
)

// maxPlain is the greatest depth of an expression that says what an element lets through, so that it can stand in the statement that
// sets a variable to it and to the power before it, in one that passes over the rung.
const maxPlain = api.MaxDepth - 3

// rungs makes statements of the rungs of a ladder: labels has the positions of those that have one.
type rungs struct {
	*work
	labels map[string]int
	// memory is the array of the hidden cells, edge the position of the next one that has not been used.
	memory string
	edge   int
	// powers are variables for power, so many of which are used.
	powers []string
	used   int
	body   []api.Stmt
	// later sets the hidden cells that are read in an expression which is not in a variable yet.
	later []api.Stmt
}

// ladder returns the statements of a ladder.
func (w *work) ladder() []api.Stmt {
	source := w.unit.Body.Rungs
	r := &rungs{work: w, labels: map[string]int{}}
	if edges, _ := ladder.Edges(source); len(edges) > 0 {
		r.memory = w.fresh("edge", api.Type{Kind: api.KBool, N: len(edges)})
	}
	for i, x := range source {
		r.labels[x.Label] = i
	}
	var groups []group
	for _, x := range source {
		groups = append(groups, r.rung(x))
	}
	return w.flow(groups)
}

// power returns the name of a variable for power that is not used.
func (r *rungs) power() string {
	if r.used == len(r.powers) {
		r.powers = append(r.powers, r.cell("power", api.KBool))
	}
	r.used++
	return r.powers[r.used-1]
}

// become sets a variable to an expression, and then the hidden cells that are read in it.
func (r *rungs) become(name string, e api.Expr) {
	r.body = append(r.body, set(name, e))
	r.body = append(r.body, r.later...)
	r.later = nil
}

func (r *rungs) rung(x api.Rung) group {
	r.body, r.used = nil, 0
	power := r.whole(x)
	var g group
	for _, c := range x.Coils {
		if c.Mark == api.MJump {
			g = group{jumps: true, when: of(power), to: r.labels[c.Name]}
		} else {
			r.coil(c, power)
		}
	}
	g.body = r.body
	return g
}

// whole returns the power that comes to the coils of a rung. It stands in a variable, unless it is used only once.
func (r *rungs) whole(x api.Rung) api.Expr {
	p, _ := ladder.Flat(x.Power)
	isUsedOnce := len(x.Coils) == 1 && !isEdge(x.Coils[0].Mark)
	if isUsedOnce && r.isPlain(p) && !hasPart(p, hasEdge) {
		return r.conductance(p)
	}
	power := r.power()
	r.through(p, truth(true), power)
	return name(power)
}

func (r *rungs) coil(c api.Coil, power api.Expr) {
	switch c.Mark {
	case api.MPlain, api.MNot:
		r.become(c.Name, notIf(c.Mark == api.MNot, power))
	case api.MRise, api.MFall:
		r.become(c.Name, r.changed(c.Mark, power))
	case api.MSet, api.MReset:
		r.body = append(r.body, when(power, set(c.Name, truth(c.Mark == api.MSet))))
	case api.MReturn:
		r.body = append(r.body, when(power, api.Stmt{Op: api.SReturn}))
	}
}

// changed returns whether a value has risen, or fallen, since the last time, by the next hidden cell, which is set to it later.
func (r *rungs) changed(mark int, v api.Expr) api.Expr {
	was := element(r.memory, number(r.edge))
	r.later = append(r.later, setElement(r.memory, number(r.edge), v))
	r.edge++
	if mark == api.MRise {
		return binary(api.EAnd, v, not(was))
	}
	return binary(api.EAnd, not(v), was)
}

// isPlain reports whether it can be said in one expression what an element lets through: nothing in it executes a block, and it is
// not too deep, or has no parts that could stand alone.
func (r *rungs) isPlain(p api.Power) bool {
	isBox := func(x api.Power) bool { return x.Op == api.PBox }
	if hasPart(p, isBox) {
		return false
	}
	trial := &rungs{}
	return len(p.Parts) == 0 || depth(trial.conductance(p)) <= maxPlain
}

// conductance returns the expression of what an element without boxes lets through.
func (r *rungs) conductance(p api.Power) api.Expr {
	switch p.Op {
	case api.PContact:
		if hasEdge(p) {
			return r.changed(p.Mark, name(p.Name))
		}
		return notIf(p.Mark == api.MNot, name(p.Name))
	case api.PCompare:
		return p.Arg[0]
	case api.PSeries, api.PParallel:
		var l []api.Expr
		for _, part := range p.Parts {
			l = append(l, r.conductance(part))
		}
		op := api.EAnd
		if p.Op == api.PParallel {
			op = api.EOr
		}
		return combined(op, l...)
	}
	return truth(true)
}

// through sets the variable behind to the power behind an element, to which some power comes.
func (r *rungs) through(p api.Power, power api.Expr, behind string) {
	switch {
	case r.isPlain(p):
		r.become(behind, both(power, r.conductance(p)))
	case p.Op == api.PSeries:
		for _, part := range r.grouped(p) {
			r.through(part, power, behind)
			power = name(behind)
		}
	case p.Op == api.PParallel:
		r.parallel(r.grouped(p), power, behind)
	case p.Op == api.PBox:
		r.body = append(r.body, call(p.Name, p.Fields, append(of(power), p.Args...)))
		r.become(behind, field(p.Name, p.Out))
	}
}

// grouped returns the parts of an element, in which as many as possible that are next to each other have become one that is plain.
func (r *rungs) grouped(p api.Power) []api.Power {
	var groups []api.Power
	for _, part := range p.Parts {
		last := len(groups) - 1
		if last >= 0 {
			group := api.Power{Op: p.Op, Parts: joined(partsOf(groups[last], p.Op), of(part))}
			if r.isPlain(group) {
				groups[last] = group
				continue
			}
		}
		groups = append(groups, part)
	}
	return groups
}

// partsOf returns the parts of an element, if it has an operator; otherwise the element alone.
func partsOf(p api.Power, op int) []api.Power {
	if p.Op == op {
		return p.Parts
	}
	return of(p)
}

// parallel sets the variable behind to the power behind some parts. The same power comes to all of them, so that the variable, in
// which it can be, is only set at the end.
func (r *rungs) parallel(parts []api.Power, power api.Expr, behind string) {
	used := r.used
	some, branch := r.power(), r.power()
	r.through(parts[0], power, some)
	for _, part := range parts[1:] {
		r.through(part, power, branch)
		r.become(some, binary(api.EOr, name(some), name(branch)))
	}
	r.become(behind, name(some))
	r.used = used
}

// both returns the expression that is true if some power, which may be that from the left, and another expression are true.
func both(power, e api.Expr) api.Expr {
	if power.Op == api.EConst {
		return e
	}
	return binary(api.EAnd, power, e)
}

// depth returns how deep an expression is.
func depth(e api.Expr) int {
	n := 0
	for _, x := range e.Args {
		n = max(n, depth(x))
	}
	return n + 1
}

// hasPart reports whether something is true of an element, or of one in it.
func hasPart(p api.Power, is func(api.Power) bool) bool {
	isIn := func(part api.Power) bool { return hasPart(part, is) }
	return is(p) || slices.ContainsFunc(p.Parts, isIn)
}

func hasEdge(p api.Power) bool {
	return p.Op == api.PContact && isEdge(p.Mark)
}

func isEdge(mark int) bool {
	return mark == api.MRise || mark == api.MFall
}
