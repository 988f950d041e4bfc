// Package deep copies parts of bodies, so that a copy shares no memory with what it is a copy of.
package deep

import "winch/api"

// List returns the copies of the members of a list; nil if there are none.
func List[T any](l []T, copied func(T) T) []T {
	var all []T
	for _, x := range l {
		all = append(all, copied(x))
	}
	return all
}

// Exprs returns a copy of expressions.
func Exprs(l []api.Expr) []api.Expr {
	return List(l, Expr)
}

// Expr returns a copy of an expression.
func Expr(e api.Expr) api.Expr {
	e.Args = Exprs(e.Args)
	return e
}
