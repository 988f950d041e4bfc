package tidy

import (
	"slices"

	"winch/api"
	"winch/eval"
)

// without returns instructions without those at some places. What led to one of these leads to the next one that is left.
func without(l []api.Instr, gone places) []api.Instr {
	moved := map[int]int{}
	var left []api.Instr
	for at, x := range l {
		moved[at] = len(left)
		if !gone[at] {
			left = append(left, x)
		}
	}
	for i, x := range left {
		if jumps(x) {
			left[i].A = moved[x.A]
		}
	}
	return left
}

// prune leaves the places that can be reached.
func prune(l []api.Instr) []api.Instr {
	is := reached(l)
	var gone places
	for at := range l {
		gone[at] = !is[at]
	}
	return without(l, gone)
}

// thread makes jumps lead where the IJumps to which they lead would lead at last.
func thread(l []api.Instr) []api.Instr {
	threaded := slices.Clone(l)
	end := ends(l)
	for at, x := range l {
		if jumps(x) {
			threaded[at].A = end[x.A]
		}
	}
	return threaded
}

// withoutJumps leaves no IJump that leads to the place after it.
func withoutJumps(l []api.Instr) []api.Instr {
	var gone places
	for at := range l {
		gone[at] = isNextJump(l, at)
	}
	return without(l, gone)
}

// withoutPicks leaves no value that is pushed and dropped at once.
func withoutPicks(l []api.Instr) []api.Instr {
	targets := led(l)
	var gone places
	for at := range l {
		if isPicked(l, at, targets) {
			gone[at], gone[at+1] = true, true
		}
	}
	return without(l, gone)
}

// folder computes the operators of constants: kept has the places so far that are left, each of which is followed by the next one.
type folder struct {
	l       []api.Instr
	targets places
	gone    places
	kept    []int
}

// fold computes the operators whose operands are constants, and to which no jump leads between them.
func fold(l []api.Instr) []api.Instr {
	f := &folder{l: slices.Clone(l), targets: led(l)}
	for at, x := range l {
		f.kept = append(f.kept, at)
		switch x.Op {
		case api.IUnary:
			f.operator(1, func(operands []int) (int, int) {
				n, _ := eval.Unary(x.A, operands[0])
				return n, api.FNone
			})
		case api.IBinary:
			f.operator(2, func(operands []int) (int, int) {
				n, fault, _ := eval.Binary(x.A, operands[0], operands[1])
				return n, fault
			})
		}
	}
	return without(f.l, f.gone)
}

// operator computes the operator at the last place, if it has so many constants before it, and no fault.
func (f *folder) operator(count int, compute func(operands []int) (int, int)) {
	last := len(f.kept) - 1
	first := last - count
	if first < 0 {
		return
	}
	var operands []int
	for _, at := range f.kept[first:last] {
		if f.l[at].Op != api.IConst || at != f.kept[first] && f.targets[at] {
			return
		}
		operands = append(operands, operand(f.l[f.kept[last]], f.l[at].A))
	}
	n, fault := compute(operands)
	if fault != api.FNone || f.targets[f.kept[last]] {
		return
	}
	for _, at := range f.kept[first+1:] {
		f.gone[at] = true
	}
	f.l[f.kept[first]].A = n
	f.kept = f.kept[:first+1]
}

// operand returns a value as an operator sees it, which takes those modulo 2 that are to be KBools.
func operand(x api.Instr, v int) int {
	if x.A == api.ENot || x.A >= api.EOr && x.A <= api.EAnd {
		return v & 1
	}
	return v
}
