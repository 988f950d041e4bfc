package ladder

import (
	"winch/api"
	"winch/reading"
	"winch/syntax"
)

// rungs reads rungs as long as there are some.
func rungs(r *reading.Reader) []api.Rung {
	var l []api.Rung
	for r.Accept("rung") {
		next := readRung(r)
		l = append(l, next)
	}
	return l
}

// readRung reads a rung after its word.
func readRung(r *reading.Reader) api.Rung {
	var x api.Rung
	if !r.Is(":") {
		x.Label = r.Name()
	}
	r.Expect(":")
	x.Power = readPower(r)
	r.Expect("->")
	x.Coils = reading.Sequence(r, func() api.Coil { return readCoil(r) })
	r.Expect(";")
	return x
}

func readPower(r *reading.Reader) api.Power {
	return readParts(r, api.PParallel, "|", readSeries)
}

func readSeries(r *reading.Reader) api.Power {
	return readParts(r, api.PSeries, "&", readElement)
}

// readParts reads one part, which is then itself the element, or several ones with a sign between each two.
func readParts(r *reading.Reader, op int, sign string, part func(*reading.Reader) api.Power) api.Power {
	first := part(r)
	if !r.Is(sign) {
		return first
	}
	parts := []api.Power{first}
	for r.Accept(sign) {
		next := part(r)
		parts = append(parts, next)
	}
	return api.Power{Op: op, Parts: parts}
}

func readElement(r *reading.Reader) api.Power {
	switch {
	case r.Accept("true"):
		return api.Power{Op: api.PTrue}
	case r.Accept("["):
		e := readExpression(r)
		r.Expect("]")
		return api.Power{Op: api.PCompare, Arg: []api.Expr{e}}
	case r.Accept("("):
		p := readPower(r)
		r.Expect(")")
		return p
	case r.Accept("box"):
		return readBox(r)
	}
	mark := readSign(r)
	return api.Power{Op: api.PContact, Mark: mark, Name: r.Name()}
}

// readBox reads a box after its word.
func readBox(r *reading.Reader) api.Power {
	p := api.Power{Op: api.PBox, Name: r.Name()}
	r.Expect("(")
	p.Fields = []string{r.Name()}
	for r.Accept(",") {
		field := r.Name()
		r.Expect(":=")
		arg := readExpression(r)
		p.Fields, p.Args = append(p.Fields, field), append(p.Args, arg)
	}
	r.Expect(")")
	r.Expect(".")
	p.Out = r.Name()
	return p
}

func readExpression(r *reading.Reader) api.Expr {
	return reading.Part(r, r.Extent(), syntax.Expr)
}

// readSign takes the sign before a name, if there is one, and returns its mark.
func readSign(r *reading.Reader) int {
	switch {
	case r.Accept("/"):
		return api.MNot
	case r.Accept("+"):
		return api.MRise
	case r.Accept("-"):
		return api.MFall
	}
	return api.MPlain
}

func readCoil(r *reading.Reader) api.Coil {
	var mark int
	switch {
	case r.Accept("return"):
		return api.Coil{Mark: api.MReturn}
	case r.Accept("set"):
		mark = api.MSet
	case r.Accept("reset"):
		mark = api.MReset
	case r.Accept("jump"):
		mark = api.MJump
	default:
		mark = readSign(r)
	}
	return api.Coil{Mark: mark, Name: r.Name()}
}
