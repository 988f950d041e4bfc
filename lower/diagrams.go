package lower

import (
	"winch/api"
	"winch/diagram"
	"winch/kinds"
)

// nodes makes statements of the nodes of a diagram: results has what is behind those that something takes, takers how many pins are
// still to take it; nothing takes from a node that has no number.
type nodes struct {
	*work
	results map[int]result
	takers  map[int]int
	// free has the variables of each kind whose results nothing takes any more.
	free map[int][]string
	body []api.Stmt
}

// result is a variable with the result of a node, and its kind.
type result struct {
	name string
	kind int
}

// diagram returns the statements of a diagram.
func (w *work) diagram() []api.Stmt {
	n := &nodes{work: w, results: map[int]result{}, takers: map[int]int{}, free: map[int][]string{}}
	source := w.unit.Body.Nodes
	for _, x := range source {
		for _, p := range x.Pins {
			if p.From != 0 {
				n.takers[p.From]++
			}
		}
	}
	order, _ := diagram.Order(source)
	for _, at := range order {
		n.node(source[at])
	}
	return n.body
}

func (n *nodes) node(x api.Node) {
	var inputs []string
	var operands []int
	var args []api.Expr
	for _, p := range x.Pins {
		e, kind := n.pin(p)
		inputs, operands, args = append(inputs, p.Name), append(operands, kind), append(args, e)
	}
	switch x.Op {
	case api.DOp:
		kind, _ := kinds.Result(x.E, operands...)
		n.become(x.Number, kind, api.Expr{Op: x.E, Args: args})
	case api.DBlock:
		n.body = append(n.body, call(x.Name, inputs, args))
		// The block can be executed again before its output is taken.
		if output := field(x.Name, x.Out); n.takers[x.Number] > 0 {
			n.become(x.Number, n.kind(output), output)
		}
	case api.DOut:
		n.body = append(n.body, set(x.Name, args[0]))
	}
}

// pin returns the expression of what a pin takes, and its kind. A result that has been taken for the last time need not be kept:
// the next one comes into its place at the earliest when it has been used.
func (n *nodes) pin(p api.Pin) (api.Expr, int) {
	if p.From == 0 {
		return notIf(p.Neg, p.Arg[0]), n.kind(p.Arg[0])
	}
	r := n.results[p.From]
	n.takers[p.From]--
	n.freeIfDone(p.From)
	return notIf(p.Neg, name(r.name)), r.kind
}

// become sets the result of a node to an expression of a kind. It is computed even if nothing takes it, as it can have a fault.
func (n *nodes) become(number, kind int, e api.Expr) {
	if n.takers[number] == 0 {
		n.body = append(n.body, computed(kind, e))
		return
	}
	r := result{kind: kind}
	if free := n.free[kind]; len(free) > 0 {
		last := len(free) - 1
		r.name, n.free[kind] = free[last], free[:last]
	} else {
		r.name = n.cell("node", kind)
	}
	n.results[number] = r
	n.body = append(n.body, set(r.name, e))
}

// freeIfDone makes the variable of a result free, if nothing is left that takes it.
func (n *nodes) freeIfDone(number int) {
	if r := n.results[number]; n.takers[number] == 0 {
		n.free[r.kind] = append(n.free[r.kind], r.name)
	}
}
