package syntax

import (
	"winch/api"
	"winch/reading"
)

// expression reads an expression. Operators of one level are grouped from the left: a right operand has higher ones only.
func (r *reader) expression() api.Expr {
	level := func(op int) int {
		switch op {
		case api.EOr:
			return 1
		case api.EXor:
			return 2
		case api.EAnd:
			return 3
		case api.EEq, api.ENe:
			return 4
		case api.ELt, api.ELe, api.EGt, api.EGe:
			return 5
		case api.EAdd, api.ESub:
			return 6
		case api.EMul, api.EDiv, api.EMod:
			return 7
		}
		return 0
	}
	var operands func(least int) api.Expr
	operands = func(least int) api.Expr {
		left := r.unary()
		for {
			op := operator(r.Token().Text)
			n := level(op)
			if n < least {
				return left
			}
			r.Next()
			right := operands(n + 1)
			left = api.Expr{Op: op, Args: []api.Expr{left, right}}
		}
	}
	return operands(1)
}

// operator returns the operator of two operands that has a text, 0 if none has.
func operator(text string) int {
	switch text {
	case "or":
		return api.EOr
	case "xor":
		return api.EXor
	case "and":
		return api.EAnd
	case "=":
		return api.EEq
	case "<>":
		return api.ENe
	case "<":
		return api.ELt
	case "<=":
		return api.ELe
	case ">":
		return api.EGt
	case ">=":
		return api.EGe
	case "+":
		return api.EAdd
	case "-":
		return api.ESub
	case "*":
		return api.EMul
	case "/":
		return api.EDiv
	case "mod":
		return api.EMod
	}
	return 0
}

// unary reads an operand of an operator.
func (r *reader) unary() api.Expr {
	switch {
	case r.Accept("not"):
		return api.Expr{Op: api.ENot, Args: []api.Expr{r.unary()}}
	case r.Accept("-"):
		return api.Expr{Op: api.ENeg, Args: []api.Expr{r.unary()}}
	case r.Accept("("):
		e := r.expression()
		r.Expect(")")
		return e
	case r.Token().Kind == api.TName:
		return r.named()
	}
	return r.constant()
}

// named reads what begins with a name.
func (r *reader) named() api.Expr {
	e := api.Expr{Op: api.EName, S: r.Name()}
	switch {
	case r.Accept("."):
		e.Op = api.EField
		e.Field = r.Name()
	case r.Accept("["):
		e.Op = api.EIndex
		e.Args = []api.Expr{r.expression()}
		r.Expect("]")
	case r.Accept("("):
		e.Op = api.ECall
		e.Args = r.arguments()
	}
	return e
}

// arguments reads the arguments of a call after its parenthesis, with the other one.
func (r *reader) arguments() []api.Expr {
	if r.Accept(")") {
		return nil
	}
	args := reading.Sequence(r.Reader, r.expression)
	r.Expect(")")
	return args
}

func (r *reader) constant() api.Expr {
	e := api.Expr{Op: api.EConst}
	switch {
	case r.Token().Kind == api.TTime:
		e.Kind, e.N = api.KTime, r.Time()
	case r.Accept("true"):
		e.Kind, e.N = api.KBool, 1
	case r.Accept("false"):
		e.Kind = api.KBool
	default:
		e.Kind, e.N = api.KInt, r.Number()
	}
	return e
}
