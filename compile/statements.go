package compile

import (
	"math"

	"winch/api"
	"winch/eval"
)

func (u *unit) text() {
	u.statements(u.source.Body.Text)
}

func (u *unit) statements(l []api.Stmt) {
	for _, x := range l {
		u.statement(x)
	}
}

func (u *unit) statement(x api.Stmt) {
	switch x.Op {
	case api.SSet:
		u.assign(x)
	case api.SCall:
		u.call(x.Name, x.Fields, func(at int) { u.value(x.Args[at]) })
	case api.SIf:
		u.branches(x)
	case api.SCase:
		u.choice(x)
	case api.SFor:
		u.count(x)
	case api.SWhile:
		u.while(x)
	case api.SRepeat:
		u.repeat(x)
	case api.SExit:
		u.exits = append(u.exits, u.jump(api.IJump))
	case api.SReturn:
		depth := u.depth
		u.leave()
		u.depth = depth
	}
}

func (u *unit) assign(x api.Stmt) {
	u.value(x.Args[0])
	if len(x.Index) > 0 {
		u.keep(element{u.variables[x.Name], x.Index[0]})
		return
	}
	u.keep(u.named(x.Name))
}

func (u *unit) branches(x api.Stmt) {
	u.value(x.Args[0])
	next := u.jump(api.IFalse)
	u.statements(x.Body)
	var ends []func()
	for _, a := range x.Arms {
		ends = append(ends, u.jump(api.IJump))
		next()
		u.value(a.If[0])
		next = u.jump(api.IFalse)
		u.statements(a.Body)
	}
	if len(x.Other) > 0 {
		ends = append(ends, u.jump(api.IJump))
		next()
		u.statements(x.Other)
	} else {
		next()
	}
	landAll(ends)
}

// choice writes a case: its value is on the stack until an arm is chosen.
func (u *unit) choice(x api.Stmt) {
	u.value(x.Args[0])
	var ends []func()
	for _, a := range x.Arms {
		next := u.unlessOne(a.Labels)
		u.drop(1)
		u.statements(a.Body)
		ends = append(ends, u.jump(api.IJump))
		next()
	}
	u.drop(1)
	u.statements(x.Other)
	landAll(ends)
}

// unlessOne writes a jump that is executed if the value on the top is none of some numbers.
func (u *unit) unlessOne(l []int) (land func()) {
	var found []func()
	last := len(l) - 1
	for _, n := range l[:last] {
		u.pick(0)
		u.constant(n)
		u.binary(api.ENe)
		found = append(found, u.jump(api.IFalse))
	}
	u.pick(0)
	u.constant(l[last])
	u.binary(api.EEq)
	land = u.jump(api.IFalse)
	landAll(found)
	return land
}

// loop writes the statements of a loop, and returns what makes the exits in them lead to the next place.
func (u *unit) loop(l []api.Stmt) (land func()) {
	around := u.exits
	u.exits = nil
	u.statements(l)
	exits := u.exits
	u.exits = around
	return func() { landAll(exits) }
}

func (u *unit) while(x api.Stmt) {
	begin := u.place()
	u.value(x.Args[0])
	end := u.jump(api.IFalse)
	exits := u.loop(x.Body)
	u.jumpTo(api.IJump, begin)
	end()
	exits()
}

func (u *unit) repeat(x api.Stmt) {
	begin := u.place()
	exits := u.loop(x.Body)
	u.value(x.Args[0])
	u.jumpTo(api.IFalse, begin)
	exits()
}

// count writes a for. On the stack are the last number, and the one that comes next, which does not depend on the variable.
func (u *unit) count(x api.Stmt) {
	continues, limit := api.ELe, math.MaxInt32-x.N
	if x.N < 0 {
		continues, limit = api.EGe, math.MinInt32-x.N
	}
	u.bounds(x.Args[0], x.Args[1])
	begin := u.place()
	u.pick(0)
	u.pick(2)
	u.binary(continues)
	ends := []func(){u.jump(api.IFalse)}
	u.pick(0)
	u.keep(u.named(x.Name))
	exits := u.loop(x.Body)
	if !isConstant(x.Args[1]) || !eval.IsValue(x.Args[1].N+x.N) {
		// The number after this one may be no value.
		u.pick(0)
		u.constant(limit)
		u.binary(continues)
		ends = append(ends, u.jump(api.IFalse))
	}
	u.constant(x.N)
	u.binary(api.EAdd)
	u.jumpTo(api.IJump, begin)
	landAll(ends)
	exits()
	u.drop(2)
}

// bounds pushes the last number of a for, and then the first one, although that is computed first.
func (u *unit) bounds(first, last api.Expr) {
	if isConstant(first) || isConstant(last) {
		u.value(last)
		u.value(first)
		return
	}
	u.value(first)
	u.value(last)
	u.pick(1)
	u.pick(1)
	u.put(2)
	u.put(0)
}

func isConstant(e api.Expr) bool {
	return e.Op == api.EConst
}
