package compile

import (
	"winch/api"
	"winch/diagram"
)

// nodes writes a diagram. The results of nodes are at the bottom of the stack: slots has the places of those that have a number, takers
// how many pins are still to take each of them, free the places whose results nothing takes any more.
type nodes struct {
	*unit
	slots  map[int]slot
	takers map[int]int
	free   []slot
}

func (u *unit) diagram() {
	n := &nodes{unit: u, slots: map[int]slot{}, takers: map[int]int{}}
	source := u.source.Body.Nodes
	for _, x := range source {
		for _, p := range x.Pins {
			if p.From != 0 {
				n.takers[p.From]++
			}
		}
	}
	order, _ := diagram.Order(source)
	for _, at := range order {
		n.node(source[at])
	}
	n.drop(n.depth)
}

func (n *nodes) node(x api.Node) {
	switch x.Op {
	case api.DOp:
		for _, p := range x.Pins {
			n.pin(p)
		}
		if len(x.Pins) == 1 {
			n.unary(x.E)
		} else {
			n.binary(x.E)
		}
		n.become(x.Number)
	case api.DBlock:
		var inputs []string
		for _, p := range x.Pins {
			inputs = append(inputs, p.Name)
		}
		n.call(x.Name, inputs, func(at int) { n.pin(x.Pins[at]) })
		if n.takers[x.Number] > 0 {
			n.output(x.Name, x.Out)
			n.become(x.Number)
		}
	case api.DOut:
		n.pin(x.Pins[0])
		n.keep(n.named(x.Name))
	}
}

// pin pushes what a pin takes.
func (n *nodes) pin(p api.Pin) {
	if p.From == 0 {
		n.value(p.Arg[0])
	} else {
		at := n.slots[p.From]
		n.pick(n.depth - 1 - int(at))
		n.takers[p.From]--
		if n.takers[p.From] == 0 {
			n.free = append(n.free, at)
		}
	}
	n.notIf(p.Neg)
}

// become makes the value on the top the result of a node.
func (n *nodes) become(number int) {
	last := len(n.free) - 1
	switch {
	case n.takers[number] == 0:
		n.drop(1)
	case last >= 0:
		n.slots[number] = n.free[last]
		n.keep(n.free[last])
		n.free = n.free[:last]
	default:
		n.slots[number] = slot(n.depth - 1)
	}
}
