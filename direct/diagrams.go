package direct

import "winch/api"

// nodes executes the nodes of a diagram: results has what is behind those that have a number.
type nodes struct {
	*frame
	results map[int]int
}

func (f *frame) diagram() {
	n := &nodes{f, map[int]int{}}
	for _, at := range f.order {
		f.step()
		n.node(f.unit.Body.Nodes[at])
	}
}

func (n *nodes) node(x api.Node) {
	pin := func(at int) int { return n.pin(x.Pins[at]) }
	switch x.Op {
	case api.DOp:
		v := pin(0)
		if x.E == api.ENot {
			n.results[x.Number] = 1 - v
			return
		}
		n.results[x.Number] = combined(x.E, v, pin(1))
	case api.DBlock:
		var inputs []string
		for _, p := range x.Pins {
			inputs = append(inputs, p.Name)
		}
		n.call(x.Name, inputs, pin)
		n.results[x.Number] = n.output(x.Name, x.Out)
	case api.DOut:
		n.set(x.Name, pin(0))
	}
}

// pin returns what a pin takes.
func (n *nodes) pin(p api.Pin) int {
	if p.From != 0 {
		return negatedIf(p.Neg, n.results[p.From])
	}
	return negatedIf(p.Neg, n.value(p.Arg[0]))
}
