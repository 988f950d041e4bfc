package lower

import "winch/api"

// of returns a list.
func of[T any](l ...T) []T {
	return l
}

func name(s string) api.Expr {
	return api.Expr{Op: api.EName, S: s}
}

// number returns the expression of a value. Constants are not negative.
func number(n int) api.Expr {
	if n < 0 {
		return unary(api.ENeg, number(-n))
	}
	return api.Expr{Op: api.EConst, Kind: api.KInt, N: n}
}

func truth(is bool) api.Expr {
	e := api.Expr{Op: api.EConst, Kind: api.KBool}
	if is {
		e.N = 1
	}
	return e
}

func time(n int) api.Expr {
	return api.Expr{Op: api.EConst, Kind: api.KTime, N: n}
}

func unary(op int, e api.Expr) api.Expr {
	return api.Expr{Op: op, Args: of(e)}
}

func binary(op int, v, w api.Expr) api.Expr {
	return api.Expr{Op: op, Args: of(v, w)}
}

func not(e api.Expr) api.Expr {
	return unary(api.ENot, e)
}

// notIf returns the negation of an expression, if it is to be negated.
func notIf(is bool, e api.Expr) api.Expr {
	if is {
		return not(e)
	}
	return e
}

// combined returns expressions, of which there is at least one, combined by an operator, from left to right. They are halved again
// and again, so that none of them is much deeper than the others.
func combined(op int, l ...api.Expr) api.Expr {
	if len(l) == 1 {
		return l[0]
	}
	half := len(l) / 2
	return binary(op, combined(op, l[:half]...), combined(op, l[half:]...))
}

// element returns the element of an array at an index.
func element(array string, index api.Expr) api.Expr {
	return api.Expr{Op: api.EIndex, S: array, Args: of(index)}
}

// field returns the output of a block variable.
func field(block, output string) api.Expr {
	return api.Expr{Op: api.EField, S: block, Field: output}
}

func set(name string, e api.Expr) api.Stmt {
	return api.Stmt{Op: api.SSet, Name: name, Args: of(e)}
}

func setElement(array string, index, e api.Expr) api.Stmt {
	return api.Stmt{Op: api.SSet, Name: array, Index: of(index), Args: of(e)}
}

func call(block string, inputs []string, args []api.Expr) api.Stmt {
	return api.Stmt{Op: api.SCall, Name: block, Fields: inputs, Args: args}
}

// when returns the statement that executes others if a condition is true.
func when(condition api.Expr, body ...api.Stmt) api.Stmt {
	return api.Stmt{Op: api.SIf, Args: of(condition), Body: body}
}

// computed returns the statement that computes an expression of a kind, and does nothing with it.
func computed(kind int, e api.Expr) api.Stmt {
	switch kind {
	case api.KInt:
		e = binary(api.EEq, e, number(0))
	case api.KTime:
		e = binary(api.EEq, e, time(0))
	}
	return when(e)
}

// whenAll returns the statement that executes others if all conditions are true; those alone, if there are no conditions.
func whenAll(conditions []api.Expr, body ...api.Stmt) []api.Stmt {
	if len(conditions) == 0 {
		return body
	}
	return of(when(combined(api.EAnd, conditions...), body...))
}

// eachOf returns the loop in which a variable takes all positions of a list.
func eachOf(variable string, length int, body ...api.Stmt) api.Stmt {
	return api.Stmt{Op: api.SFor, Name: variable, Args: of(number(0), number(length-1)), N: 1, Body: body}
}

// joined returns the members of several lists, one after the other.
func joined[T any](lists ...[]T) []T {
	var all []T
	for _, l := range lists {
		all = append(all, l...)
	}
	return all
}
