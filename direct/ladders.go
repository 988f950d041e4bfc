package direct

import (
	"slices"

	"winch/api"
)

// notExecuted stands for the power of a rung that is not executed.
const notExecuted = -1

// rung executes a rung of a ladder: edge is the position of the hidden cell of the next contact or coil that has one.
type rung struct {
	*frame
	edge int
}

func (f *frame) ladder() {
	rungs := f.unit.Body.Rungs
	f.powers = slices.Repeat([]int{notExecuted}, len(rungs))
	for at := 0; at < len(rungs); {
		r := &rung{f, f.edges[at]}
		power := r.through(rungs[at].Power, 1)
		f.powers[at] = power
		at = r.coils(at, power)
	}
}

// through returns the power behind an element, to which some power comes.
func (r *rung) through(p api.Power, power int) int {
	r.step()
	switch p.Op {
	case api.PContact:
		return power & r.contact(p)
	case api.PCompare:
		return power & r.value(p.Arg[0])
	case api.PSeries:
		for _, part := range p.Parts {
			power = r.through(part, power)
		}
	case api.PParallel:
		some := 0
		for _, part := range p.Parts {
			behind := r.through(part, power)
			some |= behind
		}
		return some
	case api.PBox:
		return r.box(p, power)
	}
	return power
}

// contact returns whether a contact lets power through.
func (r *rung) contact(p api.Power) int {
	v := r.cells[r.places[p.Name].at]
	switch p.Mark {
	case api.MNot:
		return 1 - v
	case api.MRise, api.MFall:
		return r.changed(p.Mark, v)
	}
	return v
}

// changed returns whether a value has risen, or fallen, since the last time, and keeps it in the next hidden cell.
func (r *rung) changed(mark, v int) int {
	was := r.cells[r.edge]
	r.cells[r.edge] = v
	r.edge++
	if mark == api.MRise {
		return v & (1 - was)
	}
	return (1 - v) & was
}

// box executes a block, whose first input is the power, and returns its output.
func (r *rung) box(p api.Power, power int) int {
	r.call(p.Name, p.Fields, func(at int) int {
		if at == 0 {
			return power
		}
		return r.value(p.Args[at-1])
	})
	return r.output(p.Name, p.Out)
}

// coils executes the coils of the rung at a position, and returns the position of the next one.
func (r *rung) coils(at, power int) int {
	next := at + 1
	for _, c := range r.unit.Body.Rungs[at].Coils {
		r.step()
		switch c.Mark {
		case api.MPlain, api.MNot:
			r.set(c.Name, negatedIf(c.Mark == api.MNot, power))
		case api.MRise, api.MFall:
			r.set(c.Name, r.changed(c.Mark, power))
		case api.MSet, api.MReset:
			if power == 1 {
				r.set(c.Name, negatedIf(c.Mark == api.MReset, 1))
			}
		case api.MJump:
			if power == 1 {
				next = r.labels[c.Name]
			}
		case api.MReturn:
			if power == 1 {
				next = len(r.powers)
			}
		}
	}
	return next
}

// edgesOf returns how many contacts and coils of a rung have a hidden cell.
func edgesOf(x api.Rung) int {
	n := contactEdges(x.Power)
	for _, c := range x.Coils {
		n += countIf(isEdge(c.Mark))
	}
	return n
}

func contactEdges(p api.Power) int {
	n := countIf(p.Op == api.PContact && isEdge(p.Mark))
	for _, part := range p.Parts {
		n += contactEdges(part)
	}
	return n
}

func isEdge(mark int) bool {
	return mark == api.MRise || mark == api.MFall
}

func countIf(is bool) int {
	if is {
		return 1
	}
	return 0
}
