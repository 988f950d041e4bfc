package direct

import "winch/api"

// lines executes the lines of a list: result is the present one; open has what stands before the parentheses that are open.
type lines struct {
	*frame
	result int
	open   []opened
}

// opened is an operator whose second operand stands in parentheses, and its first one.
type opened struct {
	op     int
	neg    bool
	result int
}

func (f *frame) list() {
	l := &lines{frame: f}
	for at := 0; at < len(f.unit.Body.List); {
		f.step()
		at = l.line(at)
	}
}

// line executes a line, and returns the position of the next one.
func (l *lines) line(at int) int {
	x := l.unit.Body.List[at]
	switch x.Op {
	case api.LLoad:
		l.result = negatedIf(x.Neg, l.value(x.Arg[0]))
	case api.LStore:
		l.set(x.Name, negatedIf(x.Neg, l.result))
	case api.LSet, api.LReset:
		if l.result == 1 {
			l.set(x.Name, negatedIf(x.Op == api.LReset, 1))
		}
	case api.LNot:
		l.result = 1 - l.result
	case api.LOp:
		l.operator(x)
	case api.LClose:
		l.close()
	case api.LJump:
		if l.holds(x.Cond) {
			return l.labels[x.Name]
		}
	case api.LCall:
		if l.holds(x.Cond) {
			l.call(x.Name, x.Fields, func(at int) int { return l.value(x.Arg[at]) })
		}
	case api.LRet:
		if l.holds(x.Cond) {
			return len(l.unit.Body.List)
		}
	}
	return at + 1
}

// holds reports whether the result is what a line wants of it: nothing, that it is true, or that it is false.
func (l *lines) holds(condition int) bool {
	switch condition {
	case 1:
		return l.result == 1
	case 2:
		return l.result == 0
	}
	return true
}

func (l *lines) operator(x api.Line) {
	if x.Open {
		l.open = append(l.open, opened{x.E, x.Neg, l.result})
		return
	}
	v := negatedIf(x.Neg, l.value(x.Arg[0]))
	l.result = combined(x.E, l.result, v)
}

func (l *lines) close() {
	last := len(l.open) - 1
	x := l.open[last]
	l.open = l.open[:last]
	l.result = combined(x.op, x.result, negatedIf(x.neg, l.result))
}
