package compile

import "winch/api"

// rungs writes a ladder: edge is the hidden cell of the next contact or coil that has one.
type rungs struct {
	*unit
	edge   int
	labels *labels
}

func (u *unit) ladder() {
	r := &rungs{unit: u, edge: u.hidden, labels: newLabels()}
	for _, x := range u.source.Body.Rungs {
		r.labels.places[x.Label] = r.place()
		r.push(r.through(x.Power, false))
		last := len(x.Coils) - 1
		for _, c := range x.Coils[:last] {
			r.pick(0)
			r.coil(c)
		}
		r.coil(x.Coils[last])
	}
	landAll(r.labels.jumps)
}

// push pushes power that is always there, if it is not on the stack.
func (r *rungs) push(isThere bool) {
	if !isThere {
		r.constant(1)
	}
}

// through takes power from the stack, and pushes what an element lets through. What is always there is not on the stack: the element
// takes none if it comes to it, and reports whether it pushes some.
func (r *rungs) through(p api.Power, comes bool) bool {
	switch p.Op {
	case api.PTrue:
		return comes
	case api.PContact:
		r.contact(p)
		r.andIf(comes)
	case api.PCompare:
		r.value(p.Arg[0])
		r.andIf(comes)
	case api.PSeries:
		for _, part := range p.Parts {
			comes = r.through(part, comes)
		}
		return comes
	case api.PParallel:
		r.parallel(p.Parts, comes)
	case api.PBox:
		r.push(comes)
		r.box(p)
	}
	return true
}

func (r *rungs) andIf(comes bool) {
	if comes {
		r.binary(api.EAnd)
	}
}

// contact pushes whether a contact lets power through.
func (r *rungs) contact(p api.Power) {
	at := r.variables[p.Name].at
	r.load(at)
	switch p.Mark {
	case api.MNot:
		r.unary(api.ENot)
	case api.MRise, api.MFall:
		was := r.changed(p.Mark)
		r.load(at)
		r.keep(was)
	}
}

// changed makes of the value on the top whether it has risen, or fallen, since the last time, and returns the hidden cell in which it
// is to be kept.
func (r *rungs) changed(mark int) place {
	was := r.edge
	r.edge++
	r.notIf(mark == api.MFall)
	r.load(was)
	r.notIf(mark == api.MRise)
	r.binary(api.EAnd)
	return cell(was)
}

// parallel pushes the power behind parts to all of which the same power comes.
func (r *rungs) parallel(parts []api.Power, comes bool) {
	for i, part := range parts {
		if comes {
			r.pick(min(i, 1))
		}
		r.push(r.through(part, comes))
		if i > 0 {
			r.binary(api.EOr)
		}
	}
	if comes {
		r.put(0)
	}
}

// box executes a block, whose first input is the power on the stack, and pushes its output.
func (r *rungs) box(p api.Power) {
	r.call(p.Name, p.Fields, func(at int) {
		if at > 0 {
			r.value(p.Args[at-1])
		}
	})
	r.output(p.Name, p.Out)
}

// coil takes power from the stack to a coil.
func (r *rungs) coil(c api.Coil) {
	switch c.Mark {
	case api.MPlain, api.MNot:
		r.notIf(c.Mark == api.MNot)
		r.keep(r.named(c.Name))
	case api.MRise, api.MFall:
		r.pick(0)
		was := r.changed(c.Mark)
		r.keep(r.named(c.Name))
		r.keep(was)
	case api.MSet, api.MReset:
		r.setIf(c.Name, c.Mark == api.MSet)
	case api.MJump:
		r.notIf(true)
		r.labels.lead(r.jumpLater(api.IFalse), c.Name)
	case api.MReturn:
		skip := r.jump(api.IFalse)
		r.leave()
		skip()
	}
}
