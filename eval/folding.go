package eval

import (
	"winch/api"
	"winch/deep"
	"winch/kinds"
)

// fold returns a well formed expression in which constants stand for the operators that can be computed.
func fold(e api.Expr) api.Expr {
	e.Args = deep.List(e.Args, fold)
	if isDecided(e) {
		return e.Args[0]
	}
	if c, is := computed(e); is {
		return c
	}
	return e
}

// isDecided reports whether the left operand of an operator is a constant that is its result, whatever the right one is.
func isDecided(e api.Expr) bool {
	switch e.Op {
	case api.EAnd:
		return isConstant(e.Args[0], 0)
	case api.EOr:
		return isConstant(e.Args[0], 1)
	}
	return false
}

// isConstant reports whether an expression is one of the two constants that are KBools.
func isConstant(e api.Expr, n int) bool {
	return e.Op == api.EConst && e.Kind == api.KBool && e.N == n
}

// computed returns the constant that an operator of constants makes; false if there is none.
func computed(e api.Expr) (api.Expr, bool) {
	if e.Op < api.ENot {
		return api.Expr{}, false
	}
	var operands, values []int
	for _, x := range e.Args {
		if x.Op != api.EConst {
			return api.Expr{}, false
		}
		operands = append(operands, x.Kind)
		values = append(values, x.N)
	}
	kind, is := kinds.Result(e.Op, operands...)
	if !is {
		return api.Expr{}, false
	}
	n, fault := result(e.Op, values)
	return api.Expr{Op: api.EConst, Kind: kind, N: n}, fault == api.FNone && n >= 0
}

// result returns the result of an operator, and its fault.
func result(op int, values []int) (int, int) {
	if len(values) == 1 {
		n, _ := Unary(op, values[0])
		return n, api.FNone
	}
	n, fault, _ := Binary(op, values[0], values[1])
	return n, fault
}
