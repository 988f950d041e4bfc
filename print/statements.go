package print

import (
	"strconv"
	"strings"

	"winch/api"
	"winch/writing"
)

// indent is what the lines of statements begin with once more than those of the statement that they stand in.
const indent = "  "

// printer writes statements; line takes each of their lines, with how often it is indented.
type printer struct {
	expressions
	line func(in int, text string)
}

// lines returns the lines of well formed statements, without line feeds.
func lines(l []api.Stmt) []string {
	var all []string
	collect := func(in int, text string) {
		all = append(all, strings.Repeat(indent, in)+text)
	}
	p := printer{newExpressions(), collect}
	p.statements(l, 0)
	return all
}

func (p printer) statements(l []api.Stmt, in int) {
	for _, s := range l {
		p.statement(s, in)
	}
}

func (p printer) statement(s api.Stmt, in int) {
	switch s.Op {
	case api.SSet:
		p.line(in, p.place(s)+" := "+p.text(s.Args[0])+";")
	case api.SCall:
		p.line(in, s.Name+"("+writing.Inputs(s.Fields, s.Args, p.text)+");")
	case api.SIf:
		p.choice(s, in)
	case api.SCase:
		p.selection(s, in)
	case api.SFor:
		p.block(in, p.count(s), s.Body, "end_for;")
	case api.SWhile:
		p.block(in, "while "+p.text(s.Args[0])+" do", s.Body, "end_while;")
	case api.SRepeat:
		p.block(in, "repeat", s.Body, "until "+p.text(s.Args[0]))
		p.line(in, "end_repeat;")
	case api.SExit:
		p.line(in, "exit;")
	case api.SReturn:
		p.line(in, "return;")
	}
}

// place returns the text of what a statement sets.
func (p printer) place(s api.Stmt) string {
	if len(s.Index) == 0 {
		return s.Name
	}
	return s.Name + "[" + p.list(s.Index) + "]"
}

// block writes statements between two lines.
func (p printer) block(in int, first string, l []api.Stmt, last string) {
	p.line(in, first)
	p.statements(l, in+1)
	p.line(in, last)
}

func (p printer) choice(s api.Stmt, in int) {
	p.line(in, "if "+p.text(s.Args[0])+" then")
	p.statements(s.Body, in+1)
	for _, a := range s.Arms {
		p.line(in, "elsif "+p.text(a.If[0])+" then")
		p.statements(a.Body, in+1)
	}
	p.other(s, in)
	p.line(in, "end_if;")
}

func (p printer) selection(s api.Stmt, in int) {
	p.line(in, "case "+p.text(s.Args[0])+" of")
	for _, a := range s.Arms {
		p.line(in+1, writing.Joined(a.Labels, ", ", strconv.Itoa)+":")
		p.statements(a.Body, in+2)
	}
	p.other(s, in)
	p.line(in, "end_case;")
}

// other writes the else of a statement, if it has one.
func (p printer) other(s api.Stmt, in int) {
	if !s.Else {
		return
	}
	p.line(in, "else")
	p.statements(s.Other, in+1)
}

// count returns the first line of a for.
func (p printer) count(s api.Stmt) string {
	by := ""
	if s.N != 1 {
		by = " by " + strconv.Itoa(s.N)
	}
	return "for " + s.Name + " := " + p.text(s.Args[0]) + " to " + p.text(s.Args[1]) + by + " do"
}
