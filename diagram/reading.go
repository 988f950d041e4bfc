package diagram

import (
	"winch/api"
	"winch/reading"
	"winch/syntax"
)

// nodes reads nodes up to the end of the source.
func nodes(r *reading.Reader) []api.Node {
	operators := operators()
	var l []api.Node
	for r.Token().Kind != api.TEnd {
		n := readNode(r, operators)
		r.Expect(";")
		l = append(l, n)
	}
	return l
}

func readNode(r *reading.Reader, operators map[string]int) api.Node {
	if r.Token().Kind == api.TName {
		return readOut(r)
	}
	number := r.Number()
	r.Expect(":")
	var n api.Node
	if e, is := operators[r.Token().Text]; is {
		n = readOperator(r, e)
	} else {
		n = readBlock(r)
	}
	n.Number = number
	return n
}

func readOut(r *reading.Reader) api.Node {
	n := api.Node{Op: api.DOut, Name: r.Name()}
	r.Expect(":=")
	n.Pins = []api.Pin{readPin(r)}
	return n
}

// readOperator reads the node of an operator from the word on.
func readOperator(r *reading.Reader, e int) api.Node {
	r.Next()
	r.Expect("(")
	pins := []api.Pin{readPin(r)}
	for len(pins) < operands(e) {
		r.Expect(",")
		next := readPin(r)
		pins = append(pins, next)
	}
	r.Expect(")")
	return api.Node{Op: api.DOp, E: e, Pins: pins}
}

// readBlock reads the node of a block from its name on.
func readBlock(r *reading.Reader) api.Node {
	n := api.Node{Op: api.DBlock, Name: r.Name()}
	r.Expect("(")
	if !r.Is(")") {
		n.Pins = reading.Sequence(r, func() api.Pin { return readInput(r) })
	}
	r.Expect(")")
	r.Expect(".")
	n.Out = r.Name()
	return n
}

// readInput reads a pin with the name of an input.
func readInput(r *reading.Reader) api.Pin {
	name := r.Name()
	r.Expect(":=")
	p := readPin(r)
	p.Name = name
	return p
}

func readPin(r *reading.Reader) api.Pin {
	p := api.Pin{Neg: r.Accept("/")}
	if r.Accept(":") {
		p.From = r.Number()
	} else {
		p.Arg = []api.Expr{reading.Part(r, r.Extent(), syntax.Expr)}
	}
	return p
}
