package syntax

import (
	"winch/api"
	"winch/reading"
)

// text reads statements up to a token that begins none.
func (r *reader) text() []api.Stmt {
	var l []api.Stmt
	for {
		read := r.statements[r.Token().Text]
		if r.Token().Kind == api.TName {
			read = r.simple
		}
		if read == nil {
			return l
		}
		s := read()
		r.Expect(";")
		l = append(l, s)
	}
}

// simple reads a statement that begins with a name: one that sets a variable, or a call.
func (r *reader) simple() api.Stmt {
	name := r.Name()
	if r.Accept("(") {
		return r.call(name)
	}
	s := api.Stmt{Op: api.SSet, Name: name}
	if r.Accept("[") {
		s.Index = []api.Expr{r.expression()}
		r.Expect("]")
	}
	r.Expect(":=")
	s.Args = []api.Expr{r.expression()}
	return s
}

// call reads the inputs of a call after its parenthesis, with the other one.
func (r *reader) call(name string) api.Stmt {
	s := api.Stmt{Op: api.SCall, Name: name}
	if r.Accept(")") {
		return s
	}
	s.Args = reading.Sequence(r.Reader, func() api.Expr {
		s.Fields = append(s.Fields, r.Name())
		r.Expect(":=")
		return r.expression()
	})
	r.Expect(")")
	return s
}

func (r *reader) choice() api.Stmt {
	r.Expect("if")
	s := api.Stmt{Op: api.SIf}
	s.Args = []api.Expr{r.expression()}
	r.Expect("then")
	s.Body = r.text()
	for r.Accept("elsif") {
		s.Arms = append(s.Arms, r.condition())
	}
	s.Other, s.Else = r.other()
	r.Expect("end_if")
	return s
}

// condition reads what follows an elsif.
func (r *reader) condition() api.Arm {
	when := r.expression()
	r.Expect("then")
	return api.Arm{If: []api.Expr{when}, Body: r.text()}
}

func (r *reader) selection() api.Stmt {
	r.Expect("case")
	s := api.Stmt{Op: api.SCase}
	s.Args = []api.Expr{r.expression()}
	r.Expect("of")
	for r.Is("-") || r.Token().Kind == api.TInt {
		s.Arms = append(s.Arms, r.labelled())
	}
	s.Other, s.Else = r.other()
	r.Expect("end_case")
	return s
}

// labelled reads an arm of a case.
func (r *reader) labelled() api.Arm {
	labels := reading.Sequence(r.Reader, r.label)
	r.Expect(":")
	return api.Arm{Labels: labels, Body: r.text()}
}

// other reads an else, and reports whether it is there.
func (r *reader) other() ([]api.Stmt, bool) {
	if !r.Accept("else") {
		return nil, false
	}
	return r.text(), true
}

func (r *reader) count() api.Stmt {
	r.Expect("for")
	s := api.Stmt{Op: api.SFor, Name: r.Name(), N: 1}
	r.Expect(":=")
	first := r.expression()
	r.Expect("to")
	last := r.expression()
	s.Args = []api.Expr{first, last}
	if r.Accept("by") {
		s.N = r.by()
	}
	r.Expect("do")
	s.Body = r.text()
	r.Expect("end_for")
	return s
}

func (r *reader) while() api.Stmt {
	r.Expect("while")
	s := api.Stmt{Op: api.SWhile}
	s.Args = []api.Expr{r.expression()}
	r.Expect("do")
	s.Body = r.text()
	r.Expect("end_while")
	return s
}

func (r *reader) repeat() api.Stmt {
	r.Expect("repeat")
	s := api.Stmt{Op: api.SRepeat}
	s.Body = r.text()
	r.Expect("until")
	s.Args = []api.Expr{r.expression()}
	r.Expect("end_repeat")
	return s
}

func (r *reader) exit() api.Stmt {
	r.Expect("exit")
	return api.Stmt{Op: api.SExit}
}

func (r *reader) leave() api.Stmt {
	r.Expect("return")
	return api.Stmt{Op: api.SReturn}
}
