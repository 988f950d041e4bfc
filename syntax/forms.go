package syntax

import (
	"math"

	"winch/api"
	"winch/lexis"
	"winch/measure"
)

// meter counts the nodes of statements, too.
type meter struct {
	measure.Meter
}

func (m *meter) statements(l []api.Stmt, depth int) bool {
	return measure.All(l, depth, m.statement)
}

func (m *meter) statement(s api.Stmt, depth int) bool {
	isArm := isCondition
	if s.Op == api.SCase {
		isArm = isLabelled
	}
	arm := func(a api.Arm, depth int) bool {
		return m.Enter(depth) && isArm(a) && m.Expressions(a.If, depth+1) && m.statements(a.Body, depth+1)
	}
	return m.Enter(depth) && isStatement(s) && m.Expressions(s.Index, depth+1) && m.Expressions(s.Args, depth+1) &&
		m.statements(s.Body, depth+1) && measure.All(s.Arms, depth+1, arm) && m.statements(s.Other, depth+1)
}

// isStatement reports whether the fields of a statement are those that its operator needs, whatever stands in it. What an
// operator needs is cleared in a copy, of which then nothing must be left.
func isStatement(s api.Stmt) bool {
	rest := s
	rest.Op, rest.Args = 0, nil
	args := 1
	fits := true
	switch s.Op {
	case api.SSet:
		fits = lexis.IsName(s.Name) && len(s.Index) <= 1
		rest.Name, rest.Index = "", nil
	case api.SCall:
		args = len(s.Fields)
		fits = lexis.IsName(s.Name) && measure.AreNames(s.Fields)
		rest.Name, rest.Fields = "", nil
	case api.SIf:
		fits = s.Else || len(s.Other) == 0
		rest.Body, rest.Arms, rest.Other, rest.Else = nil, nil, nil, false
	case api.SCase:
		fits = s.Else || len(s.Other) == 0
		rest.Arms, rest.Other, rest.Else = nil, nil, false
	case api.SFor:
		args = 2
		fits = lexis.IsName(s.Name) && s.N != 0 && isLabel(s.N)
		rest.Name, rest.N, rest.Body = "", 0, nil
	case api.SWhile, api.SRepeat:
		rest.Body = nil
	case api.SExit, api.SReturn:
		args = 0
	default:
		fits = false
	}
	return fits && len(s.Args) == args && isEmpty(rest)
}

// isEmpty reports whether all fields of a statement are zero, where an empty list is as good as none.
func isEmpty(s api.Stmt) bool {
	return s.Op == 0 && s.Name == "" && s.N == 0 && !s.Else && len(s.Index) == 0 && len(s.Fields) == 0 &&
		len(s.Args) == 0 && len(s.Body) == 0 && len(s.Arms) == 0 && len(s.Other) == 0
}

// isCondition reports whether an arm can be one of an if.
func isCondition(a api.Arm) bool {
	return len(a.If) == 1 && len(a.Labels) == 0
}

// isLabelled reports whether an arm can be one of a case.
func isLabelled(a api.Arm) bool {
	for _, n := range a.Labels {
		if !isLabel(n) {
			return false
		}
	}
	return len(a.If) == 0 && len(a.Labels) > 0
}

// isLabel reports whether a number can be written as a label: the sign stands before a numeral, so the least value cannot.
func isLabel(n int) bool {
	return n >= -math.MaxInt32 && n <= math.MaxInt32
}
