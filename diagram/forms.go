package diagram

import (
	"winch/api"
	"winch/lexis"
	"winch/measure"
)

// maxNumber is the greatest number of a node.
const maxNumber = 999

// meter counts the nodes of diagrams; words has those of the operators.
type meter struct {
	measure.Meter
	words map[int]string
}

// areNodes reports whether each node is one that the grammar has, and whether there are not too many, nor too deep expressions.
func areNodes(l []api.Node) bool {
	m := meter{words: words()}
	return measure.All(l, 0, m.node)
}

func (m *meter) node(n api.Node, depth int) bool {
	return m.Enter(depth) && m.isNode(n) && measure.All(n.Pins, depth, m.pin)
}

// isNode reports whether the fields of a node are those that its operator needs, whatever its pins take.
func (m *meter) isNode(n api.Node) bool {
	switch n.Op {
	case api.DOp:
		return m.words[n.E] != "" && n.Name == "" && n.Out == "" && len(n.Pins) == operands(n.E) && areNameless(n.Pins)
	case api.DBlock:
		return n.E == 0 && lexis.IsName(n.Name) && lexis.IsName(n.Out) && areNamed(n.Pins)
	case api.DOut:
		return n.E == 0 && n.Number == 0 && lexis.IsName(n.Name) && n.Out == "" && len(n.Pins) == 1 && areNameless(n.Pins)
	}
	return false
}

// areNameless reports whether no pin has a name.
func areNameless(l []api.Pin) bool {
	for _, p := range l {
		if p.Name != "" {
			return false
		}
	}
	return true
}

// areNamed reports whether the pins have names, all of them different.
func areNamed(l []api.Pin) bool {
	there := map[string]bool{}
	for _, p := range l {
		if !lexis.IsName(p.Name) || there[p.Name] {
			return false
		}
		there[p.Name] = true
	}
	return true
}

// pin counts a pin, and the nodes of its expression, which has a depth of its own.
func (m *meter) pin(p api.Pin, depth int) bool {
	if !m.Enter(depth) {
		return false
	}
	switch x := takenBy(p).(type) {
	case result:
		return true
	case value:
		return m.Expression(x.e, 1)
	}
	return false
}

// areNumbered reports whether the numbers of nodes are different, and not too great. The number 0 is none.
func areNumbered(l []api.Node) bool {
	there := map[int]bool{}
	for _, n := range l {
		if n.Number < 0 || n.Number > maxNumber || there[n.Number] {
			return false
		}
		there[n.Number] = n.Number != 0
	}
	return true
}

// areInOrder reports whether every node is in the order: neither in a ring, nor behind one, nor behind a number that no node has.
func areInOrder(l []api.Node) bool {
	n := 0
	for range order(l) {
		n++
	}
	return n == len(l)
}
