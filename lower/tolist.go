package lower

import (
	"strconv"

	"winch/api"
)

// canList reports whether the statements of a body can be a list.
func canList(w *work) bool {
	return haveNoIndex(w.unit.Body.Text)
}

// haveNoIndex reports whether no statement sets an element of an array.
func haveNoIndex(l []api.Stmt) bool {
	for _, x := range l {
		if len(x.Index) > 0 || !haveNoIndex(x.Body) || !haveNoIndex(x.Other) {
			return false
		}
		for _, a := range x.Arms {
			if !haveNoIndex(a.Body) {
				return false
			}
		}
	}
	return true
}

// label is a place in a list, by its position among all of them.
type label int

// lister makes lines of statements.
type lister struct {
	*work
	lines []api.Line
	// places has the position of the line that is at each label, jumps the label to which the line at a position jumps.
	places []int
	jumps  map[int]label
	// exits are the labels behind the loops that are open.
	exits []label
	// counters has the variables of loops that count, by how many of them are open; counting is how many there are.
	counters []counter
	counting int
	choice   string
}

// counter is the variables of a loop that counts: the number that comes next, and the last one.
type counter struct{ next, last string }

// toList makes the body a list.
func (w *work) toList() {
	l := &lister{work: w, jumps: map[int]label{}}
	l.statements(w.unit.Body.Text)
	l.finish()
	w.unit.Body = api.Body{Lang: api.InList, List: l.lines}
}

// finish gives the lines to which others jump their labels. There must be a line at each of them.
func (l *lister) finish() {
	targets := map[int]bool{}
	for _, to := range l.jumps {
		targets[l.places[to]] = true
	}
	if targets[len(l.lines)] {
		l.add(api.Line{Op: api.LRet})
	}
	count := 0
	for i := range l.lines {
		if targets[i] {
			count++
			l.lines[i].Label = "l" + strconv.Itoa(count)
		}
	}
	for i, to := range l.jumps {
		l.lines[i].Name = l.lines[l.places[to]].Label
	}
}

func (l *lister) add(x api.Line) {
	l.lines = append(l.lines, x)
}

func (l *lister) load(e api.Expr) {
	l.add(api.Line{Op: api.LLoad, Arg: of(e)})
}

// store adds the lines that set a variable to an expression.
func (l *lister) store(name string, e api.Expr) {
	l.load(e)
	l.add(api.Line{Op: api.LStore, Name: name})
}

// When a jump jumps.
const (
	always  = 0
	ifTrue  = 1
	ifFalse = 2
)

func (l *lister) jump(cond int, to label) {
	l.jumps[len(l.lines)] = to
	l.add(api.Line{Op: api.LJump, Cond: cond})
}

// jumpIf adds the lines that jump on some condition of an expression.
func (l *lister) jumpIf(e api.Expr, cond int, to label) {
	l.load(e)
	l.jump(cond, to)
}

// label returns a label, which is at the next line until it is put elsewhere.
func (l *lister) label() label {
	l.places = append(l.places, len(l.lines))
	return label(len(l.places) - 1)
}

// put puts labels at the next line.
func (l *lister) put(labels ...label) {
	for _, x := range labels {
		l.places[x] = len(l.lines)
	}
}

func (l *lister) statements(list []api.Stmt) {
	for _, x := range list {
		l.statement(x)
	}
}

func (l *lister) statement(x api.Stmt) {
	switch x.Op {
	case api.SSet:
		l.store(x.Name, x.Args[0])
	case api.SCall:
		l.add(api.Line{Op: api.LCall, Name: x.Name, Fields: x.Fields, Arg: x.Args})
	case api.SIf:
		l.branches(x)
	case api.SCase:
		l.choices(x)
	case api.SFor:
		l.count(x)
	case api.SWhile, api.SRepeat:
		l.loop(x)
	case api.SExit:
		l.jump(always, l.exits[len(l.exits)-1])
	case api.SReturn:
		l.add(api.Line{Op: api.LRet})
	}
}

// branches adds the lines of an if.
func (l *lister) branches(x api.Stmt) {
	end := l.label()
	arms := append(of(api.Arm{If: x.Args, Body: x.Body}), x.Arms...)
	for i, a := range arms {
		next := l.label()
		l.jumpIf(a.If[0], ifFalse, next)
		l.statements(a.Body)
		if i < len(arms)-1 || len(x.Other) > 0 {
			l.jump(always, end)
		}
		l.put(next)
	}
	l.statements(x.Other)
	l.put(end)
}

// choices adds the lines of a case. When the statements of an arm are executed, the variable with the value has been used, so that
// one is enough for all.
func (l *lister) choices(x api.Stmt) {
	if l.choice == "" {
		l.choice = l.cell("choice", api.KInt)
	}
	l.store(l.choice, x.Args[0])
	end := l.label()
	var arms []label
	for _, a := range x.Arms {
		arm := l.label()
		arms = append(arms, arm)
		for _, n := range a.Labels {
			l.jumpIf(binary(api.EEq, name(l.choice), number(n)), ifTrue, arm)
		}
	}
	l.statements(x.Other)
	for i, a := range x.Arms {
		l.jump(always, end)
		l.put(arms[i])
		l.statements(a.Body)
	}
	l.put(end)
}

// loop adds the lines of a while or a repeat.
func (l *lister) loop(x api.Stmt) {
	begin, end := l.label(), l.label()
	l.exits = append(l.exits, end)
	if x.Op == api.SWhile {
		l.jumpIf(x.Args[0], ifFalse, end)
		l.statements(x.Body)
		l.jump(always, begin)
	} else {
		l.statements(x.Body)
		l.jumpIf(x.Args[0], ifFalse, begin)
	}
	l.exits = l.exits[:len(l.exits)-1]
	l.put(end)
}

// count adds the lines of a for. It ends if the next number is beyond the last one, or if there is no next number: as numbers are
// wrapped, it is then on the other side of the one before it.
func (l *lister) count(x api.Stmt) {
	if l.counting == len(l.counters) {
		l.counters = append(l.counters, counter{l.cell("count", api.KInt), l.cell("last", api.KInt)})
	}
	c := l.counters[l.counting]
	next, last := name(c.next), name(c.last)
	after, isNotBeyond, isAfter := binary(api.EAdd, next, number(x.N)), api.ELe, api.EGt
	if x.N < 0 {
		after, isNotBeyond, isAfter = binary(api.ESub, next, number(-x.N)), api.EGe, api.ELt
	}
	l.store(c.next, x.Args[0])
	l.store(c.last, x.Args[1])
	begin, end := l.label(), l.label()
	l.jumpIf(binary(isNotBeyond, next, last), ifFalse, end)
	l.store(x.Name, next)
	l.counting++
	l.exits = append(l.exits, end)
	l.statements(x.Body)
	l.exits = l.exits[:len(l.exits)-1]
	l.counting--
	l.jumpIf(binary(isAfter, after, next), ifFalse, end)
	l.store(c.next, after)
	l.jump(always, begin)
	l.put(end)
}
