// Package measure has what the forms of all bodies have in common: names, expressions, and the counting of nodes.
package measure

import (
	"winch/api"
	"winch/lexis"
)

// Meter counts the nodes of a body, and keeps their greatest depth. Its methods report false at the first part that is not well
// formed, so that they end soon whatever the size of what they look at.
type Meter struct {
	nodes, depth int
}

// Nodes returns how many nodes have been counted.
func (m *Meter) Nodes() int {
	return m.nodes
}

// Depth returns the greatest depth of a node that has been counted.
func (m *Meter) Depth() int {
	return m.depth
}

// Enter counts one node.
func (m *Meter) Enter(depth int) bool {
	m.nodes++
	m.depth = max(m.depth, depth)
	return m.nodes <= api.MaxNodes && m.depth <= api.MaxDepth
}

// Add counts nodes that another layer has counted, and found to be not too deep.
func (m *Meter) Add(nodes int) bool {
	m.nodes += nodes
	return m.nodes <= api.MaxNodes
}

// Expressions counts the nodes of expressions that have a depth.
func (m *Meter) Expressions(l []api.Expr, depth int) bool {
	return All(l, depth, m.Expression)
}

// Expression counts the nodes of an expression that has a depth.
func (m *Meter) Expression(e api.Expr, depth int) bool {
	return m.Enter(depth) && isExpression(e) && m.Expressions(e.Args, depth+1)
}

// All visits the members of a list, which all have the same depth, as long as they are well formed.
func All[T any](l []T, depth int, visit func(T, int) bool) bool {
	for _, x := range l {
		if !visit(x, depth) {
			return false
		}
	}
	return true
}

// IsNameIf reports whether s is a name if there is to be one, and is empty otherwise.
func IsNameIf(there bool, s string) bool {
	if !there {
		return s == ""
	}
	return lexis.IsName(s)
}

// AreNames reports whether all strings of a list are names.
func AreNames(l []string) bool {
	for _, s := range l {
		if !lexis.IsName(s) {
			return false
		}
	}
	return true
}
