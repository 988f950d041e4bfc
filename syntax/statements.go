package syntax

import "winch/api"

// text reads statements up to a token that begins none.
func (r *reader) text() []api.Stmt {
	var l []api.Stmt
	for {
		read := r.statements[r.token().Text]
		if r.token().Kind == api.TName {
			read = r.simple
		}
		if read == nil {
			return l
		}
		s := read()
		r.expect(";")
		l = append(l, s)
	}
}

// simple reads a statement that begins with a name: one that sets a variable, or a call.
func (r *reader) simple() api.Stmt {
	name := r.name()
	if r.accept("(") {
		return r.call(name)
	}
	s := api.Stmt{Op: api.SSet, Name: name}
	if r.accept("[") {
		s.Index = []api.Expr{r.expression()}
		r.expect("]")
	}
	r.expect(":=")
	s.Args = []api.Expr{r.expression()}
	return s
}

// call reads the inputs of a call after its parenthesis, with the other one.
func (r *reader) call(name string) api.Stmt {
	s := api.Stmt{Op: api.SCall, Name: name}
	if r.accept(")") {
		return s
	}
	s.Args = sequence(r, func() api.Expr {
		s.Fields = append(s.Fields, r.name())
		r.expect(":=")
		return r.expression()
	})
	r.expect(")")
	return s
}

func (r *reader) choice() api.Stmt {
	r.expect("if")
	s := api.Stmt{Op: api.SIf}
	s.Args = []api.Expr{r.expression()}
	r.expect("then")
	s.Body = r.text()
	for r.accept("elsif") {
		s.Arms = append(s.Arms, r.condition())
	}
	s.Other, s.Else = r.other()
	r.expect("end_if")
	return s
}

// condition reads what follows an elsif.
func (r *reader) condition() api.Arm {
	when := r.expression()
	r.expect("then")
	return api.Arm{If: []api.Expr{when}, Body: r.text()}
}

func (r *reader) selection() api.Stmt {
	r.expect("case")
	s := api.Stmt{Op: api.SCase}
	s.Args = []api.Expr{r.expression()}
	r.expect("of")
	for r.is("-") || r.token().Kind == api.TInt {
		s.Arms = append(s.Arms, r.labelled())
	}
	s.Other, s.Else = r.other()
	r.expect("end_case")
	return s
}

// labelled reads an arm of a case.
func (r *reader) labelled() api.Arm {
	labels := sequence(r, r.label)
	r.expect(":")
	return api.Arm{Labels: labels, Body: r.text()}
}

// other reads an else, and reports whether it is there.
func (r *reader) other() ([]api.Stmt, bool) {
	if !r.accept("else") {
		return nil, false
	}
	return r.text(), true
}

func (r *reader) count() api.Stmt {
	r.expect("for")
	s := api.Stmt{Op: api.SFor, Name: r.name(), N: 1}
	r.expect(":=")
	first := r.expression()
	r.expect("to")
	last := r.expression()
	s.Args = []api.Expr{first, last}
	if r.accept("by") {
		s.N = r.by()
	}
	r.expect("do")
	s.Body = r.text()
	r.expect("end_for")
	return s
}

// by reads a label other than 0; the numeral 0 is what is wrong in one, with or without a sign before it.
func (r *reader) by() int {
	n := r.label()
	if n == 0 {
		r.at--
		r.fail()
	}
	return n
}

func (r *reader) while() api.Stmt {
	r.expect("while")
	s := api.Stmt{Op: api.SWhile}
	s.Args = []api.Expr{r.expression()}
	r.expect("do")
	s.Body = r.text()
	r.expect("end_while")
	return s
}

func (r *reader) repeat() api.Stmt {
	r.expect("repeat")
	s := api.Stmt{Op: api.SRepeat}
	s.Body = r.text()
	r.expect("until")
	s.Args = []api.Expr{r.expression()}
	r.expect("end_repeat")
	return s
}

func (r *reader) exit() api.Stmt {
	r.expect("exit")
	return api.Stmt{Op: api.SExit}
}

func (r *reader) leave() api.Stmt {
	r.expect("return")
	return api.Stmt{Op: api.SReturn}
}
