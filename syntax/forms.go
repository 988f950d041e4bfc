package syntax

import (
	"math"

	"winch/api"
	"winch/lexis"
)

// meter counts the nodes of statements and expressions, and keeps their greatest depth. Its methods report false at the first
// part that is not well formed, so that they end soon whatever the size of what they look at.
type meter struct {
	nodes, depth int
}

// enter counts one node.
func (m *meter) enter(depth int) bool {
	m.nodes++
	m.depth = max(m.depth, depth)
	return m.nodes <= api.MaxNodes && m.depth <= api.MaxDepth
}

// all visits the members of a list, which all have the same depth.
func all[T any](l []T, depth int, visit func(T, int) bool) bool {
	for _, x := range l {
		if !visit(x, depth) {
			return false
		}
	}
	return true
}

func (m *meter) expressions(l []api.Expr, depth int) bool {
	return all(l, depth, m.expression)
}

func (m *meter) expression(e api.Expr, depth int) bool {
	return m.enter(depth) && isExpression(e) && m.expressions(e.Args, depth+1)
}

func (m *meter) statements(l []api.Stmt, depth int) bool {
	return all(l, depth, m.statement)
}

func (m *meter) statement(s api.Stmt, depth int) bool {
	isArm := isCondition
	if s.Op == api.SCase {
		isArm = isLabelled
	}
	arm := func(a api.Arm, depth int) bool {
		return m.enter(depth) && isArm(a) && m.expressions(a.If, depth+1) && m.statements(a.Body, depth+1)
	}
	return m.enter(depth) && isStatement(s) && m.expressions(s.Index, depth+1) && m.expressions(s.Args, depth+1) &&
		m.statements(s.Body, depth+1) && all(s.Arms, depth+1, arm) && m.statements(s.Other, depth+1)
}

// isExpression reports whether the fields of an expression are those that its operator needs, whatever its operands are.
func isExpression(e api.Expr) bool {
	if e.Op == api.EConst {
		return isConstant(e.Kind, e.N) && e.S == "" && e.Field == "" && len(e.Args) == 0
	}
	if e.Kind != 0 || e.N != 0 || (e.Op != api.EField && e.Field != "") {
		return false
	}
	switch {
	case e.Op == api.EName:
		return lexis.IsName(e.S) && len(e.Args) == 0
	case e.Op == api.EField:
		return lexis.IsName(e.S) && lexis.IsName(e.Field) && len(e.Args) == 0
	case e.Op == api.EIndex:
		return lexis.IsName(e.S) && len(e.Args) == 1
	case e.Op == api.ECall:
		return lexis.IsName(e.S)
	case e.Op == api.ENot || e.Op == api.ENeg:
		return e.S == "" && len(e.Args) == 1
	case e.Op >= api.EOr && e.Op <= api.EMod:
		return e.S == "" && len(e.Args) == 2
	}
	return false
}

// isConstant reports whether the grammar has a constant of this kind and value. (It has no negative ones.)
func isConstant(kind, n int) bool {
	switch kind {
	case api.KBool:
		return n == 0 || n == 1
	case api.KInt, api.KTime:
		return n >= 0 && n <= math.MaxInt32
	}
	return false
}

// isStatement reports whether the fields of a statement are those that its operator needs, whatever stands in it. What an
// operator needs is cleared in a copy, of which then nothing must be left.
func isStatement(s api.Stmt) bool {
	rest := s
	rest.Op, rest.Args = 0, nil
	args := 1
	fits := true
	switch s.Op {
	case api.SSet:
		fits = lexis.IsName(s.Name) && len(s.Index) <= 1
		rest.Name, rest.Index = "", nil
	case api.SCall:
		args = len(s.Fields)
		fits = lexis.IsName(s.Name) && areNames(s.Fields)
		rest.Name, rest.Fields = "", nil
	case api.SIf:
		fits = s.Else || len(s.Other) == 0
		rest.Body, rest.Arms, rest.Other, rest.Else = nil, nil, nil, false
	case api.SCase:
		fits = s.Else || len(s.Other) == 0
		rest.Arms, rest.Other, rest.Else = nil, nil, false
	case api.SFor:
		args = 2
		fits = lexis.IsName(s.Name) && s.N != 0 && isLabel(s.N)
		rest.Name, rest.N, rest.Body = "", 0, nil
	case api.SWhile, api.SRepeat:
		rest.Body = nil
	case api.SExit, api.SReturn:
		args = 0
	default:
		fits = false
	}
	return fits && len(s.Args) == args && isEmpty(rest)
}

// isEmpty reports whether all fields of a statement are zero, where an empty list is as good as none.
func isEmpty(s api.Stmt) bool {
	return s.Op == 0 && s.Name == "" && s.N == 0 && !s.Else && len(s.Index) == 0 && len(s.Fields) == 0 &&
		len(s.Args) == 0 && len(s.Body) == 0 && len(s.Arms) == 0 && len(s.Other) == 0
}

// isCondition reports whether an arm can be one of an if.
func isCondition(a api.Arm) bool {
	return len(a.If) == 1 && len(a.Labels) == 0
}

// isLabelled reports whether an arm can be one of a case.
func isLabelled(a api.Arm) bool {
	for _, n := range a.Labels {
		if !isLabel(n) {
			return false
		}
	}
	return len(a.If) == 0 && len(a.Labels) > 0
}

// isLabel reports whether a number can be written as a label: the sign stands before a numeral, so the least value cannot.
func isLabel(n int) bool {
	return n >= -math.MaxInt32 && n <= math.MaxInt32
}

func areNames(l []string) bool {
	for _, s := range l {
		if !lexis.IsName(s) {
			return false
		}
	}
	return true
}
