package lower

import (
	"winch/api"
	"winch/kinds"
	"winch/list"
)

// lines makes statements of the lines of a list. The result is in a variable of its kind; in parentheses there are others, so that
// the one outside is kept.
type lines struct {
	*work
	results map[[2]int]string
	kind    int
	open    []opened
	body    []api.Stmt
}

// opened is an operator whose second operand stands in parentheses.
type opened struct {
	op  int
	neg bool
}

// list returns the statements of a list.
func (w *work) list() []api.Stmt {
	l := &lines{work: w, results: map[[2]int]string{}}
	source := w.unit.Body.List
	blocks, _ := list.Blocks(source)
	labels := map[string]int{}
	for i, block := range blocks {
		labels[source[block[0]].Label] = i
	}
	var groups []group
	for _, block := range blocks {
		l.body = nil
		var g group
		for _, at := range block {
			if x := source[at]; x.Op == api.LJump {
				g = group{jumps: true, when: l.conditions(x.Cond), to: labels[x.Name]}
			} else {
				l.line(x)
			}
		}
		g.body = l.body
		groups = append(groups, g)
	}
	return w.flow(groups)
}

func (l *lines) add(statements ...api.Stmt) {
	l.body = append(l.body, statements...)
}

// result returns the name of the variable that has a result of the present kind.
func (l *lines) result() string {
	key := [2]int{l.kind, len(l.open)}
	if l.results[key] == "" {
		l.results[key] = l.cell("result", l.kind)
	}
	return l.results[key]
}

// become makes the result an expression of a kind.
func (l *lines) become(kind int, e api.Expr) {
	l.kind = kind
	l.add(set(l.result(), e))
}

// conditions returns what must be true of the result for a line to be executed.
func (l *lines) conditions(cond int) []api.Expr {
	if cond == 0 {
		return nil
	}
	return of(notIf(cond == 2, name(l.result())))
}

func (l *lines) line(x api.Line) {
	switch x.Op {
	case api.LLoad:
		l.become(l.work.kind(x.Arg[0]), notIf(x.Neg, x.Arg[0]))
	case api.LStore:
		l.add(set(x.Name, notIf(x.Neg, name(l.result()))))
	case api.LSet, api.LReset:
		l.add(when(name(l.result()), set(x.Name, truth(x.Op == api.LSet))))
	case api.LNot:
		l.become(l.kind, not(name(l.result())))
	case api.LOp:
		if x.Open {
			l.open = append(l.open, opened{x.E, x.Neg})
			return
		}
		l.operate(x.E, name(l.result()), notIf(x.Neg, x.Arg[0]))
	case api.LClose:
		l.close()
	case api.LCall:
		l.add(whenAll(l.conditions(x.Cond), call(x.Name, x.Fields, x.Arg))...)
	case api.LRet:
		l.add(whenAll(l.conditions(x.Cond), api.Stmt{Op: api.SReturn})...)
	}
}

// operate makes the result that of an operator, both of whose operands have the present kind.
func (l *lines) operate(op int, v, w api.Expr) {
	kind, _ := kinds.Result(op, l.kind, l.kind)
	l.become(kind, binary(op, v, w))
}

// close combines the result in parentheses with the one outside, which has the same kind.
func (l *lines) close() {
	inner := name(l.result())
	last := len(l.open) - 1
	x := l.open[last]
	l.open = l.open[:last]
	l.operate(x.op, name(l.result()), notIf(x.neg, inner))
}
