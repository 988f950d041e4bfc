// Package syntax is layer 2: it reads expressions and statements of structured text (see shared/doc/02-syntax.md).
package syntax

import (
	"slices"

	"winch/api"
	"winch/measure"
)

// Text returns the statements of a source; with an error its position.
func Text(source string) ([]api.Stmt, int, api.Errno) {
	l, at, err := whole(source, (*reader).text)
	if err == api.OK && Check(l) != api.OK {
		return nil, 0, api.ErrFull
	}
	return l, at, err
}

// Expr returns the expression of a source that is one; with an error its position.
func Expr(source string) (api.Expr, int, api.Errno) {
	e, at, err := whole(source, (*reader).expression)
	if err == api.OK && CheckExpr(e) != api.OK {
		return api.Expr{}, 0, api.ErrFull
	}
	return e, at, err
}

// Check returns OK if statements are well formed.
func Check(l []api.Stmt) api.Errno {
	_, _, err := Nodes(l)
	return err
}

// CheckExpr returns OK if an expression is well formed.
func CheckExpr(e api.Expr) api.Errno {
	var m measure.Meter
	if !m.Expression(e, 1) {
		return api.ErrArg
	}
	return api.OK
}

// Nodes returns the number of nodes and the greatest depth of well formed statements.
func Nodes(l []api.Stmt) (int, int, api.Errno) {
	var m meter
	if !m.statements(l, 1) {
		return 0, 0, api.ErrArg
	}
	return m.Nodes(), m.Depth(), api.OK
}

// Same reports whether statements are equal in all fields.
func Same(a, b []api.Stmt) bool {
	return slices.EqualFunc(a, b, sameStatement)
}

// SameExpr reports whether expressions are equal in all fields.
func SameExpr(a, b api.Expr) bool {
	return a.Op == b.Op && a.Kind == b.Kind && a.N == b.N && a.S == b.S && a.Field == b.Field &&
		sameExpressions(a.Args, b.Args)
}

func sameExpressions(a, b []api.Expr) bool {
	return slices.EqualFunc(a, b, SameExpr)
}

func sameStatement(a, b api.Stmt) bool {
	return a.Op == b.Op && a.Name == b.Name && a.N == b.N && a.Else == b.Else && slices.Equal(a.Fields, b.Fields) &&
		sameExpressions(a.Index, b.Index) && sameExpressions(a.Args, b.Args) &&
		Same(a.Body, b.Body) && slices.EqualFunc(a.Arms, b.Arms, sameArm) && Same(a.Other, b.Other)
}

func sameArm(a, b api.Arm) bool {
	return slices.Equal(a.Labels, b.Labels) && sameExpressions(a.If, b.If) && Same(a.Body, b.Body)
}
