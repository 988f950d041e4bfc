package check

import "winch/api"

// unknown is the kind of a result of which no kind is known.
const unknown = 0

// lines checks the lines of a list, one after the other: result is the kind of the result; open has what stands before the
// parentheses that are open.
type lines struct {
	*body
	result int
	open   []opened
}

// opened is an operator whose second operand stands in parentheses, with the kind of its first one.
type opened struct{ op, result int }

func (b *body) list() {
	l := &lines{body: b}
	for _, x := range b.List {
		l.line(x)
	}
}

func (l *lines) line(x api.Line) {
	if x.Label != "" {
		l.result = unknown
	}
	switch x.Op {
	case api.LLoad:
		l.result = l.kind(x.Arg[0])
		l.wantBoolIf(x.Neg)
	case api.LStore:
		failIf(l.result == unknown, api.ErrKind)
		l.wantBoolIf(x.Neg)
		l.assign(x.Name, l.result)
	case api.LSet, api.LReset:
		l.wantBoolIf(true)
		l.assign(x.Name, api.KBool)
	case api.LNot:
		l.wantBoolIf(true)
	case api.LOp:
		l.operator(x)
	case api.LClose:
		l.close()
	case api.LJump, api.LRet:
		l.wantBoolIf(x.Cond != 0)
		if x.Cond == 0 {
			l.result = unknown
		}
	case api.LCall:
		l.wantBoolIf(x.Cond != 0)
		l.call(x.Name, x.Fields, func(at int) int { return l.kind(x.Arg[at]) })
	}
}

// wantBoolIf checks that the result is a KBool, if it must be.
func (l *lines) wantBoolIf(must bool) {
	failIf(must && l.result != api.KBool, api.ErrKind)
}

// operator checks the line of an operator. (What is negated in it is a KBool, as those that negate want nothing else.)
func (l *lines) operator(x api.Line) {
	failIf(l.result == unknown, api.ErrKind)
	if x.Open {
		l.open = append(l.open, opened{x.E, l.result})
		l.result = unknown
		return
	}
	l.result = operation(x.E, l.result, l.kind(x.Arg[0]))
}

func (l *lines) close() {
	last := len(l.open) - 1
	x := l.open[last]
	l.open = l.open[:last]
	l.result = operation(x.op, x.result, l.result)
}
