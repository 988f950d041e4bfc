package check

import (
	"winch/api"
	"winch/diagram"
)

// nodes checks the nodes of a diagram, each one after those that it takes from; results has the kinds of their results.
type nodes struct {
	*body
	results map[int]int
}

func (b *body) diagram() {
	n := &nodes{body: b, results: map[int]int{}}
	order, _ := diagram.Order(b.Nodes)
	for _, at := range order {
		n.node(b.Nodes[at])
	}
}

func (n *nodes) node(x api.Node) {
	switch x.Op {
	case api.DOp:
		var operands []int
		for _, p := range x.Pins {
			operands = append(operands, n.pin(p))
		}
		n.results[x.Number] = operation(x.E, operands...)
	case api.DBlock:
		var inputs []string
		for _, p := range x.Pins {
			inputs = append(inputs, p.Name)
		}
		n.call(x.Name, inputs, func(at int) int { return n.pin(x.Pins[at]) })
		n.results[x.Number] = n.outputOfOneCell(x.Name, x.Out)
	case api.DOut:
		n.assign(x.Name, n.pin(x.Pins[0]))
	}
}

// pin returns the kind of what a pin takes.
func (n *nodes) pin(p api.Pin) int {
	kind := n.results[p.From]
	if p.From == 0 {
		kind = n.kind(p.Arg[0])
	}
	failIf(p.Neg && kind != api.KBool, api.ErrKind)
	return kind
}
