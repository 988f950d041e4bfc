package syntax

import "winch/api"

// expression reads an expression. Operators of one level are grouped from the left: a right operand has higher ones only.
func (r *reader) expression() api.Expr {
	level := func(op int) int {
		switch op {
		case api.EOr:
			return 1
		case api.EXor:
			return 2
		case api.EAnd:
			return 3
		case api.EEq, api.ENe:
			return 4
		case api.ELt, api.ELe, api.EGt, api.EGe:
			return 5
		case api.EAdd, api.ESub:
			return 6
		case api.EMul, api.EDiv, api.EMod:
			return 7
		}
		return 0
	}
	var operands func(least int) api.Expr
	operands = func(least int) api.Expr {
		left := r.unary()
		for {
			op := operator(r.token().Text)
			n := level(op)
			if n < least {
				return left
			}
			r.at++
			right := operands(n + 1)
			left = api.Expr{Op: op, Args: []api.Expr{left, right}}
		}
	}
	return operands(1)
}

// operator returns the operator of two operands that has a text, 0 if none has.
func operator(text string) int {
	switch text {
	case "or":
		return api.EOr
	case "xor":
		return api.EXor
	case "and":
		return api.EAnd
	case "=":
		return api.EEq
	case "<>":
		return api.ENe
	case "<":
		return api.ELt
	case "<=":
		return api.ELe
	case ">":
		return api.EGt
	case ">=":
		return api.EGe
	case "+":
		return api.EAdd
	case "-":
		return api.ESub
	case "*":
		return api.EMul
	case "/":
		return api.EDiv
	case "mod":
		return api.EMod
	}
	return 0
}

// unary reads an operand of an operator.
func (r *reader) unary() api.Expr {
	switch {
	case r.accept("not"):
		return api.Expr{Op: api.ENot, Args: []api.Expr{r.unary()}}
	case r.accept("-"):
		return api.Expr{Op: api.ENeg, Args: []api.Expr{r.unary()}}
	case r.accept("("):
		e := r.expression()
		r.expect(")")
		return e
	case r.token().Kind == api.TName:
		return r.named()
	}
	return r.constant()
}

// named reads what begins with a name.
func (r *reader) named() api.Expr {
	e := api.Expr{Op: api.EName, S: r.name()}
	switch {
	case r.accept("."):
		e.Op = api.EField
		e.Field = r.name()
	case r.accept("["):
		e.Op = api.EIndex
		e.Args = []api.Expr{r.expression()}
		r.expect("]")
	case r.accept("("):
		e.Op = api.ECall
		e.Args = r.arguments()
	}
	return e
}

// arguments reads the arguments of a call after its parenthesis, with the other one.
func (r *reader) arguments() []api.Expr {
	if r.accept(")") {
		return nil
	}
	args := sequence(r, r.expression)
	r.expect(")")
	return args
}

func (r *reader) constant() api.Expr {
	e := api.Expr{Op: api.EConst}
	switch t := r.token(); {
	case t.Kind == api.TInt:
		e.Kind, e.N = api.KInt, number(t.Text)
	case t.Kind == api.TTime:
		e.Kind, e.N = api.KTime, number(t.Text[len("t#"):])
	case r.is("true"):
		e.Kind, e.N = api.KBool, 1
	case r.is("false"):
		e.Kind = api.KBool
	default:
		r.fail()
	}
	r.at++
	return e
}

// sequence reads one or more parts with commas between them.
func sequence[T any](r *reader, part func() T) []T {
	l := []T{part()}
	for r.accept(",") {
		next := part()
		l = append(l, next)
	}
	return l
}
