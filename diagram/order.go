package diagram

import (
	"iter"

	"winch/api"
	"winch/deep"
)

// Order returns the positions of the nodes of a well formed diagram in its order.
func Order(l []api.Node) ([]int, api.Errno) {
	if Check(l) != api.OK {
		return nil, api.ErrArg
	}
	var positions []int
	for i := range order(l) {
		positions = append(positions, i)
	}
	return positions, api.OK
}

// order visits the positions of the nodes in the order of a diagram, as far as there is one.
func order(l []api.Node) iter.Seq[int] {
	return func(yield func(int) bool) {
		in := make([]bool, len(l))
		numbers := map[int]bool{}
		isMissing := func(number int) bool { return !numbers[number] }
		for i := 0; i < len(l); {
			if in[i] || takesFrom(l[i], isMissing) {
				i++
				continue
			}
			if !yield(i) {
				return
			}
			in[i] = true
			numbers[l[i].Number] = true
			// Now the first node of the list that can come next may be one that was passed over.
			i = 0
		}
	}
}

// Takers returns the positions of the nodes of a well formed diagram that take from the node with a number.
func Takers(l []api.Node, number int) ([]int, api.Errno) {
	if Check(l) != api.OK {
		return nil, api.ErrArg
	}
	is := func(other int) bool { return other == number }
	there := false
	var positions []int
	for i, n := range l {
		there = there || number != 0 && is(n.Number)
		if takesFrom(n, is) {
			positions = append(positions, i)
		}
	}
	if !there {
		return nil, api.ErrNone
	}
	return positions, api.OK
}

// Numbered returns a well formed diagram in its order, with the numbers 1, 2, 3, ...
func Numbered(l []api.Node) ([]api.Node, api.Errno) {
	if Check(l) != api.OK {
		return nil, api.ErrArg
	}
	// The nodes that one takes from come before it, so that their new numbers are known.
	numbers := map[int]int{}
	rewired := func(p api.Pin) api.Pin {
		p.From = numbers[p.From]
		p.Arg = deep.Exprs(p.Arg)
		return p
	}
	var all []api.Node
	for i := range order(l) {
		n := l[i]
		n.Pins = deep.List(n.Pins, rewired)
		if n.Number != 0 {
			next := len(numbers) + 1
			numbers[n.Number] = next
			n.Number = next
		}
		all = append(all, n)
	}
	return all, api.OK
}
