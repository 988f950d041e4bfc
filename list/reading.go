package list

import (
	"winch/api"
	"winch/reading"
	"winch/syntax"
)

// rest reads what follows the word of a line, into the line.
type rest func(r *reading.Reader, x *api.Line)

// rests returns what reads the rest of a line, by its operator.
func rests() map[int]rest {
	return map[int]rest{
		api.LLoad:  readOperand,
		api.LStore: readName,
		api.LSet:   readName,
		api.LReset: readName,
		api.LOp:    readOpenOrOperand,
		api.LNot:   readNothing,
		api.LClose: readNothing,
		api.LJump:  readName,
		api.LCall:  readCall,
		api.LRet:   readNothing,
	}
}

// lines reads lines up to the end of the source.
func lines(r *reading.Reader) []api.Line {
	heads, rests := heads(), rests()
	var l []api.Line
	for r.Token().Kind != api.TEnd {
		label := readLabel(r)
		h, known := heads[r.Token().Text]
		if !known {
			r.Fail()
		}
		r.Next()
		x := api.Line{Label: label, Op: h.op, E: h.e, Neg: h.neg, Cond: h.cond}
		read := rests[h.op]
		read(r, &x)
		r.Expect(";")
		l = append(l, x)
	}
	return l
}

// readLabel reads the label of a line with its colon, if there is one.
func readLabel(r *reading.Reader) string {
	if r.Token().Kind != api.TName {
		return ""
	}
	label := r.Name()
	r.Expect(":")
	return label
}

func readNothing(*reading.Reader, *api.Line) {}

func readName(r *reading.Reader, x *api.Line) {
	x.Name = r.Name()
}

func readOperand(r *reading.Reader, x *api.Line) {
	x.Arg = []api.Expr{readExpression(r)}
}

func readOpenOrOperand(r *reading.Reader, x *api.Line) {
	if r.Is("(", ";") {
		r.Expect("(")
		x.Open = true
		return
	}
	readOperand(r, x)
}

func readCall(r *reading.Reader, x *api.Line) {
	x.Name = r.Name()
	if !r.Accept("(") || r.Accept(")") {
		return
	}
	x.Arg = reading.Sequence(r, func() api.Expr {
		x.Fields = append(x.Fields, r.Name())
		r.Expect(":=")
		return readExpression(r)
	})
	r.Expect(")")
}

func readExpression(r *reading.Reader) api.Expr {
	return reading.Part(r, r.Extent(), syntax.Expr)
}
