package samples

import (
	"strconv"
	"strings"
)

// lines is a list that is being made: kind is that of the result (empty: unknown), waiting are the labels of jumps that are still to
// come.
type lines struct {
	*scope
	all     []string
	kind    string
	waiting []string
	there   []string
}

func (s *scope) list() string {
	l := &lines{scope: s}
	for range s.Choose(2*s.Size + 1) {
		l.next()
	}
	for len(l.waiting) > 0 {
		l.load()
	}
	return strings.Join(l.all, " ")
}

func (l *lines) add(line string) { l.all = append(l.all, line+";") }

// next adds a line, or several that belong together.
func (l *lines) next() {
	if l.kind == "" || l.isOnce(6) {
		switch l.Choose(8) {
		case 0:
			l.call()
		case 1:
			l.jump()
		default:
			l.load()
		}
		return
	}
	switch x := l.Choose(12); {
	case x < 4:
		l.store()
	case x < 8:
		l.operator(2)
	case x == 8 && l.kind == "bool":
		l.add("not")
	case x == 9 || x == 10:
		l.call()
	case x == 11:
		l.jump()
	}
}

// load adds a line that makes the result known, which may have a label.
func (l *lines) load() {
	label := l.label()
	kind := l.scope.kind()
	l.add(label + l.loading(kind))
	l.kind = kind
}

// label returns a label for the next line, at which the result is unknown then: that of a jump that waits, one to which nothing jumps
// so far, or none.
func (l *lines) label() string {
	last := len(l.waiting) - 1
	switch {
	case last < 0 && l.Choose(12) > 0:
		return ""
	case last < 0:
		l.waiting = []string{l.newLabel()}
		last = 0
	}
	name := l.waiting[last]
	l.waiting = l.waiting[:last]
	l.there = append(l.there, name)
	l.kind = ""
	return name + ": "
}

func (l *lines) newLabel() string {
	l.labels++
	return "l" + strconv.Itoa(l.labels)
}

func (l *lines) loading(kind string) string {
	if kind == "bool" && l.isOnce(3) {
		return "ldn " + l.expression(kind, 2)
	}
	return "ld " + l.expression(kind, 2)
}

func (l *lines) store() {
	targets := l.targets(l.kind)
	if len(targets) == 0 {
		return
	}
	op := "st "
	if l.kind == "bool" {
		op = l.one("st st stn set reset") + " "
	}
	l.add(op + targets[l.Choose(len(targets))])
}

// operator adds an operator, whose operand may be in parentheses.
func (l *lines) operator(depth int) {
	ops, result := map[string]string{"bool": "and andn or orn xor xorn eq ne", "int": "add sub mul div mod gt eq", "time": "add sub lt ge ne"}[l.kind], l.kind
	op := l.one(ops)
	if strings.Contains("gt eq lt ge ne", op) {
		result = "bool"
	}
	if depth == 0 || l.Choose(3) > 0 {
		l.add(op + " " + l.expression(l.kind, 1))
		l.kind = result
		return
	}
	// What is in the parentheses ends with the kind with which it begins.
	before := l.kind
	l.add(op + "(")
	l.add(l.loading(before))
	for range l.Choose(3) {
		if was := len(l.all); l.isOnce(3) {
			l.store()
		} else {
			l.operator(depth - 1)
			if l.kind != before {
				l.all = l.all[:was]
				l.kind = before
			}
		}
	}
	l.add(")")
	l.kind = result
}

func (l *lines) call() {
	text := l.scope.call(2)
	if text == "" {
		return
	}
	op := "cal "
	switch l.kind {
	case "":
		op = l.label() + op
	case "bool":
		op = l.one("cal calc calcn") + " "
	}
	l.add(op + strings.TrimSuffix(text, "()"))
}

// jump adds a jump or a return: most often to a line that is still to come.
func (l *lines) jump() {
	label, condition := "", ""
	switch {
	case l.kind == "bool":
		condition = l.one("c c cn")
	case l.Choose(3) > 0:
		return
	case l.kind == "":
		label = l.label()
	}
	switch {
	case l.isOnce(4):
		l.add(label + "ret" + condition)
	case len(l.there) > 0 && l.isOnce(6):
		l.add(label + "jmp" + condition + " " + l.there[l.Choose(len(l.there))])
	default:
		to := l.newLabel()
		l.waiting = append(l.waiting, to)
		l.add(label + "jmp" + condition + " " + to)
	}
	if condition == "" {
		l.kind = ""
	}
}
