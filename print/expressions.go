package print

import (
	"winch/api"
	"winch/writing"
)

// operator says how an operator of two operands is written; operators of higher levels bind closer.
type operator struct {
	sign  string
	level int
}

// unaryLevel is that of the operators of one operand: closer than all others.
const unaryLevel = 8

// expressions writes expressions.
type expressions struct {
	operators map[int]operator
}

func newExpressions() expressions {
	return expressions{map[int]operator{
		api.EOr:  {"or", 1},
		api.EXor: {"xor", 2},
		api.EAnd: {"and", 3},
		api.EEq:  {"=", 4},
		api.ENe:  {"<>", 4},
		api.ELt:  {"<", 5},
		api.ELe:  {"<=", 5},
		api.EGt:  {">", 5},
		api.EGe:  {">=", 5},
		api.EAdd: {"+", 6},
		api.ESub: {"-", 6},
		api.EMul: {"*", 7},
		api.EDiv: {"/", 7},
		api.EMod: {"mod", 7},
	}}
}

// text returns the text of a well formed expression.
func (w expressions) text(e api.Expr) string {
	switch e.Op {
	case api.EConst:
		return constant(e.Kind, e.N)
	case api.EName:
		return e.S
	case api.EField:
		return e.S + "." + e.Field
	case api.EIndex:
		return e.S + "[" + w.list(e.Args) + "]"
	case api.ECall:
		return e.S + "(" + w.list(e.Args) + ")"
	case api.ENot:
		return "not " + w.operand(e.Args[0], unaryLevel)
	case api.ENeg:
		return "-" + w.operand(e.Args[0], unaryLevel)
	}
	o := w.operators[e.Op]
	// Operators of one level are grouped from the left, so that the right operand has to bind closer.
	return w.operand(e.Args[0], o.level) + " " + o.sign + " " + w.operand(e.Args[1], o.level+1)
}

// operand returns the text of an operand, in parentheses if its operator is of a lower level than least.
func (w expressions) operand(e api.Expr, least int) string {
	o, binary := w.operators[e.Op]
	if binary && o.level < least {
		return "(" + w.text(e) + ")"
	}
	return w.text(e)
}

func (w expressions) list(l []api.Expr) string {
	return writing.Joined(l, ", ", w.text)
}
