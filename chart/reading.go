package chart

import (
	"winch/api"
	"winch/reading"
	"winch/syntax"
)

// parts reads the parts of a chart as long as there are some.
func parts(r *reading.Reader) api.Chart {
	var c api.Chart
	for {
		switch {
		case r.Is("initial"), r.Is("step"):
			c.Steps = append(c.Steps, readStep(r))
		case r.Accept("from"):
			c.Trans = append(c.Trans, readTrans(r))
		case r.Accept("macro"):
			c.Inner = append(c.Inner, readMacro(r))
		default:
			return c
		}
	}
}

func readStep(r *reading.Reader) api.Step {
	s := api.Step{Initial: r.Accept("initial")}
	r.Expect("step")
	s.Name = r.Name()
	if r.Accept("macro") {
		s.Macro = r.Name()
	}
	for r.Accept("do") {
		s.Actions = append(s.Actions, readAction(r))
	}
	r.Expect(";")
	return s
}

func readAction(r *reading.Reader) api.Action {
	q, known := qualifiers()[r.Token().Text]
	if !known {
		r.Fail()
	}
	r.Next()
	a := api.Action{Q: q}
	if isTimed(q) {
		a.Time = r.Time()
	}
	if !r.Accept("(") {
		a.Name = r.Name()
		return a
	}
	a.Body = reading.Part(r, r.Inside(), syntax.Text)
	r.Expect(")")
	return a
}

// readTrans reads a transition after its word.
func readTrans(r *reading.Reader) api.Trans {
	var t api.Trans
	t.From = reading.Sequence(r, r.Name)
	r.Expect("to")
	t.To = reading.Sequence(r, r.Name)
	r.Expect("when")
	t.When = reading.Part(r, r.Extent(), syntax.Expr)
	r.Expect(";")
	return t
}

// readMacro reads a macro after its word.
func readMacro(r *reading.Reader) api.Chart {
	name := r.Name()
	r.Expect("(")
	in := r.Name()
	r.Expect(",")
	out := r.Name()
	r.Expect(")")
	c := parts(r)
	r.Expect("end")
	r.Expect(";")
	c.Name, c.In, c.Out = name, in, out
	return c
}
