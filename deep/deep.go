// Package deep copies bodies and their parts, so that a copy shares no memory with what it is a copy of.
package deep

import "winch/api"

// List returns the copies of the members of a list; nil if there are none.
func List[T any](l []T, copied func(T) T) []T {
	var all []T
	for _, x := range l {
		all = append(all, copied(x))
	}
	return all
}

// Exprs returns a copy of expressions.
func Exprs(l []api.Expr) []api.Expr {
	return naming{}.exprs(l)
}

// Expr returns a copy of an expression.
func Expr(e api.Expr) api.Expr {
	return naming{}.expr(e)
}

// Chart returns a copy of a chart.
func Chart(c api.Chart) api.Chart {
	return naming{}.chart(c)
}

// Body returns a copy of a body.
func Body(b api.Body) api.Body {
	return naming{}.body(b)
}

// Renamed returns a copy of a body in which a variable, which can be a block variable, has another name wherever it stands.
func Renamed(b api.Body, from, to string) api.Body {
	return naming{from, to}.body(b)
}
