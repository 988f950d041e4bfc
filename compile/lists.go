package compile

import "winch/api"

// lines writes a list. The result is on the top of the stack, if it is known; below it are those outside of the parentheses that are
// open, with the lines that opened them.
type lines struct {
	*unit
	known  bool
	open   []api.Line
	labels *labels
}

func (u *unit) list() {
	l := &lines{unit: u, labels: newLabels()}
	for _, x := range u.source.Body.List {
		if x.Label != "" {
			l.forget()
			l.labels.places[x.Label] = l.place()
		}
		l.line(x)
	}
	l.forget()
	landAll(l.labels.jumps)
}

// forget drops the result, if it is known.
func (l *lines) forget() {
	if l.known {
		l.drop(1)
	}
	l.known = false
}

func (l *lines) line(x api.Line) {
	switch x.Op {
	case api.LLoad:
		l.forget()
		l.value(x.Arg[0])
		l.notIf(x.Neg)
		l.known = true
	case api.LStore:
		l.pick(0)
		l.notIf(x.Neg)
		l.keep(l.named(x.Name))
	case api.LSet, api.LReset:
		l.pick(0)
		l.setIf(x.Name, x.Op == api.LSet)
	case api.LNot:
		l.notIf(true)
	case api.LOp:
		l.operator(x)
	case api.LClose:
		last := len(l.open) - 1
		l.notIf(l.open[last].Neg)
		l.binary(l.open[last].E)
		l.open = l.open[:last]
	case api.LJump:
		l.jumpIf(x)
	case api.LCall:
		skip := l.unless(x.Cond)
		l.call(x.Name, x.Fields, func(at int) { l.value(x.Arg[at]) })
		skip()
	case api.LRet:
		l.returnIf(x.Cond)
	}
}

func (l *lines) operator(x api.Line) {
	if x.Open {
		l.open = append(l.open, x)
		l.known = false
		return
	}
	l.value(x.Arg[0])
	l.notIf(x.Neg)
	l.binary(x.E)
}

// setIf pops a condition, and sets a variable to true or false if it is true.
func (u *unit) setIf(name string, to bool) {
	skip := u.jump(api.IFalse)
	u.constant(truth(to))
	u.keep(u.named(name))
	skip()
}

func truth(is bool) int {
	if is {
		return 1
	}
	return 0
}

// unless writes a jump that is executed if the result is not what a condition wants.
func (l *lines) unless(condition int) (land func()) {
	if condition == 0 {
		return func() {}
	}
	l.pick(0)
	l.notIf(condition == 2)
	return l.jump(api.IFalse)
}

// jumpIf writes a jump to a label, at which there is no result. Where it is not executed, the result is what it must be then.
func (l *lines) jumpIf(x api.Line) {
	if x.Cond == 0 {
		l.forget()
		l.labels.lead(l.jumpLater(api.IJump), x.Name)
		return
	}
	l.notIf(x.Cond == 1)
	l.labels.lead(l.jumpLater(api.IFalse), x.Name)
	l.constant(truth(x.Cond == 2))
}

// returnIf writes the end of the list, under a condition.
func (l *lines) returnIf(condition int) {
	if condition == 0 {
		l.forget()
		l.leave()
		return
	}
	l.notIf(condition == 2)
	skip := l.jump(api.IFalse)
	l.leave()
	skip()
	l.constant(truth(condition == 2))
}
