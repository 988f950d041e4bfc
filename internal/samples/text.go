package samples

import (
	"strconv"
	"strings"
)

func (s *scope) constant(kind string) string {
	switch kind {
	case "bool":
		return s.one("false true")
	case "time":
		return s.one("t#0 t#1 t#2 t#5 t#10 t#20 t#2147483647")
	}
	return s.one("0 0 1 1 2 3 5 7 10 65536 2147483647")
}

// readable returns a cell of a kind that can be read; a constant, if there is none.
func (s *scope) readable(kind string) string {
	var l []string
	if s.result == kind {
		l = append(l, s.name)
	}
	for _, v := range s.variables {
		switch {
		case v.block != nil:
			for _, x := range v.block.variables {
				if x.class == "output" && x.isCell() && x.kind == kind {
					l = append(l, v.name+"."+x.name)
				}
			}
		case v.kind == kind && v.n > 0:
			l = append(l, v.name+"["+s.index(v.n)+"]")
		case v.kind == kind:
			l = append(l, v.name)
		}
	}
	if len(l) == 0 {
		return s.constant(kind)
	}
	return l[s.Choose(len(l))]
}

// index returns an index of an array of n elements, which is most often that of one.
func (s *scope) index(n int) string {
	for _, v := range s.variables {
		if v.kind == "int" && v.isCell() && s.isOnce(20) {
			return s.one(v.name + " abs(" + v.name + ")mod(" + strconv.Itoa(n) + ")")
		}
	}
	if s.isOnce(60) {
		return strconv.Itoa(n)
	}
	return strconv.Itoa(s.Choose(n))
}

// targets returns the variables of one cell of a kind that can be set.
func (s *scope) targets(kind string) []string {
	var l []string
	if s.result == kind {
		l = append(l, s.name)
	}
	for _, v := range s.variables {
		if v.kind == kind && v.isCell() && v.class != "input" {
			l = append(l, v.name)
		}
	}
	return l
}

// expression returns an expression of a kind.
func (s *scope) expression(kind string, depth int) string {
	if depth <= 0 || s.isOnce(3) {
		if s.isOnce(4) {
			return s.constant(kind)
		}
		return s.readable(kind)
	}
	if s.isOnce(6) {
		return s.called(kind, depth-1)
	}
	two := func(op, kind string) string {
		return "(" + s.expression(kind, depth-1) + " " + op + " " + s.expression(kind, depth-1) + ")"
	}
	switch {
	case kind == "time":
		return two(s.one("+ -"), kind)
	case kind == "bool":
		switch s.Choose(6) {
		case 0:
			return "not " + s.expression("bool", depth-1)
		case 1:
			return two(s.one("= <> < <= > >="), s.one("int time"))
		case 2:
			return two(s.one("= <>"), "bool")
		}
		return two(s.one("and or xor"), "bool")
	case s.isOnce(6):
		return "-" + s.expression("int", depth-1)
	case s.isOnce(4):
		return "(" + s.expression("int", depth-1) + " " + s.one("/ mod") + " " + s.one("1 2 3 5 (-2)") + ")"
	}
	return two(s.one("+ - * + - * + - * / mod"), "int")
}

// called returns the call of a function whose result is of a kind.
func (s *scope) called(kind string, depth int) string {
	var l []unit
	for _, f := range s.functions {
		if f.result == kind {
			l = append(l, f)
		}
	}
	if len(l) > 0 && s.Choose(3) > 0 {
		f := l[s.Choose(len(l))]
		var args []string
		for _, v := range f.inputs() {
			args = append(args, s.expression(v.kind, depth))
		}
		return f.name + "(" + strings.Join(args, ", ") + ")"
	}
	a, b, c := s.expression("int", depth), s.expression("int", depth), s.expression("int", depth)
	switch kind {
	case "bool":
		return "tobool(" + a + ")"
	case "time":
		return "totime(" + a + ")"
	}
	switch s.Choose(5) {
	case 0:
		return "abs(" + a + ")"
	case 1:
		return s.one("min max") + "(" + a + ", " + b + ")"
	case 2:
		return "limit(" + a + ", " + b + ", " + c + ")"
	case 3:
		return "sel(" + s.expression("bool", depth) + ", " + a + ", " + b + ")"
	}
	return "toint(" + s.expression("time", depth) + ")"
}

// statements returns about as many statements.
func (s *scope) statements(size, depth int) string {
	var l []string
	for range s.Choose(size + 1) {
		l = append(l, s.statement(depth))
	}
	return strings.Join(l, " ")
}

func (s *scope) statement(depth int) string {
	inner := func() string { return s.statements(2, depth-1) }
	condition := func() string { return s.expression("bool", depth) }
	if depth <= 0 || s.isOnce(2) {
		return s.simple(depth)
	}
	switch s.Choose(8) {
	case 0, 1:
		text := "if " + condition() + " then " + inner()
		for range s.Choose(3) {
			text += " elsif " + condition() + " then " + inner()
		}
		return text + s.otherwise(inner) + " end_if;"
	case 2, 3:
		text := "case " + s.expression("int", depth) + " of "
		for i := range s.Choose(4) {
			text += strconv.Itoa(3*i) + s.one(": , ,-") + strconv.Itoa(3*i+1) + ": " + inner() + " "
		}
		return text + s.otherwise(inner) + " end_case;"
	}
	return s.loop(depth)
}

// otherwise returns an else, or nothing.
func (s *scope) otherwise(inner func() string) string {
	if s.isOnce(2) {
		return ""
	}
	return " else " + inner()
}

// loop returns a loop, which most often ends soon.
func (s *scope) loop(depth int) string {
	s.loops++
	defer func() { s.loops-- }()
	l := s.targets("int")
	if len(l) == 0 {
		return "repeat " + s.statements(2, depth-1) + " until true end_repeat;"
	}
	v := l[s.Choose(len(l))]
	inner := s.statements(2, depth-1)
	switch s.Choose(6) {
	case 0:
		return "while (" + v + " < 5) do " + inner + " " + v + " := " + v + " + 1; end_while;"
	case 1:
		return "repeat " + inner + " " + v + " := " + v + " - 1; until (" + v + " < 5) end_repeat;"
	case 2:
		return "for " + v + " := " + s.expression("int", 1) + " to " + s.expression("int", 1) + " by 65536 do " + inner + " end_for;"
	case 3:
		return "for " + v + " := " + s.one("5 7 0") + " to " + s.one("0 1 -1") + " by -" + s.one("1 2 3") + " do " + inner + " end_for;"
	}
	bounds := s.one("1to3 2to2 -1to5 2147483645to2147483647 1to0 2to7by2 2147483640to2147483647by6")
	return "for " + v + " := " + strings.ReplaceAll(strings.ReplaceAll(bounds, "to", " to "), "by", " by ") + " do " + inner + " end_for;"
}

// simple returns a statement without others in it.
func (s *scope) simple(depth int) string {
	switch {
	case s.isOnce(12) && s.loops > 0:
		return "if " + s.expression("bool", 1) + " then exit; end_if;"
	case s.isOnce(25) && !s.inAction:
		return "if " + s.expression("bool", 1) + " then return; end_if;"
	case s.isOnce(3):
		if text := s.call(depth); text != "" {
			return text + ";"
		}
	case s.isOnce(4):
		for _, v := range s.variables {
			if v.n > 0 && v.class != "input" && s.isOnce(2) {
				return v.name + "[" + s.index(v.n) + "] := " + s.expression(v.kind, depth) + ";"
			}
		}
	}
	kind := s.kind()
	l := s.targets(kind)
	if len(l) == 0 {
		return ""
	}
	return l[s.Choose(len(l))] + " := " + s.expression(kind, depth) + ";"
}

// call returns the call of a block variable; nothing, if there is none.
func (s *scope) call(depth int) string {
	v, is := s.block()
	if !is {
		return ""
	}
	var l []string
	for _, x := range v.block.inputs() {
		if s.Choose(3) > 0 {
			l = append(l, x.name+" := "+s.expression(x.kind, depth))
		}
	}
	return v.name + "(" + strings.Join(l, ", ") + ")"
}

// block returns a block variable.
func (s *scope) block() (variable, bool) {
	var l []variable
	for _, v := range s.variables {
		if v.block != nil {
			l = append(l, v)
		}
	}
	if len(l) == 0 {
		return variable{}, false
	}
	return l[s.Choose(len(l))], true
}
