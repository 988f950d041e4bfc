package tidy_test

import (
	"slices"

	"winch/api"
	"winch/eval"
	"winch/parts"
	"winch/types"
)

// of returns a list.
func of[T any](l ...T) []T { return l }

// after returns the places that can come after one.
func after(l []api.Instr, at int) []int {
	switch x := l[at]; x.Op {
	case api.IReturn:
		return nil
	case api.IJump:
		return of(x.A)
	case api.IFalse:
		return of(x.A, at+1)
	}
	return of(at + 1)
}

// ways returns all places to which ways lead from some places on, that go on only from places from which goes says so.
func ways(l []api.Instr, from []int, goes func(at int) bool) map[int]bool {
	found := map[int]bool{}
	for len(from) > 0 {
		at := from[0]
		from = from[1:]
		if found[at] {
			continue
		}
		found[at] = true
		if goes(at) {
			from = append(from, after(l, at)...)
		}
	}
	return found
}

// reached returns the places that can be reached.
func reached(l []api.Instr) map[int]bool {
	return ways(l, of(0), func(int) bool { return true })
}

// isRing reports whether IJumps lead from a place to itself.
func isRing(l []api.Instr, at int) bool {
	x := at
	for range len(l) + 1 {
		if l[x].Op != api.IJump {
			return false
		}
		x = l[x].A
		if x == at {
			return true
		}
	}
	return false
}

// What can be wrong with instructions that are not tidy.
const (
	notReached = 1 << iota
	ledOn
	toNext
	picked
	unaryConst
	binaryConst
)

// wrong returns what is wrong with instructions.
func wrong(l []api.Instr) int {
	is := reached(l)
	found := 0
	targets := map[int]bool{}
	for at, x := range l {
		if !is[at] {
			found |= notReached
			continue
		}
		if x.Op == api.IJump || x.Op == api.IFalse {
			targets[x.A] = true
		}
	}
	for at, x := range l {
		if (x.Op == api.IJump || x.Op == api.IFalse) && l[x.A].Op == api.IJump && !isRing(l, x.A) {
			found |= ledOn
		}
		if x.Op == api.IJump && x.A == at+1 {
			found |= toNext
		}
		if at+1 == len(l) || targets[at+1] {
			continue
		}
		y := l[at+1]
		if x.Op == api.IPick && y.Op == api.IDrop {
			found |= picked
		}
		if x.Op == api.IConst && y.Op == api.IUnary {
			found |= unaryConst
		}
		if x.Op == api.IConst && y.Op == api.IConst && l[at+2].Op == api.IBinary && !targets[at+2] {
			v, w := x.A, y.A
			if op := l[at+2].A; op <= api.EAnd {
				v, w = v&1, w&1
			}
			if _, fault, _ := eval.Binary(l[at+2].A, v, w); fault == api.FNone {
				found |= binaryConst
			}
		}
	}
	return found
}

// dead returns the stores of a unit whose cells are written again on every way before they are read, and before the unit ends.
func dead(c api.Code, unit int) []int {
	l := c.Units[unit].Code
	is := reached(l)
	var found []int
	for at, x := range l {
		if !is[at] || x.Op != api.IStore {
			continue
		}
		isWritten := func(place int) bool { return l[place].Op == api.IStore && l[place].A == x.A }
		goes := func(place int) bool { return !isWritten(place) }
		isRead := false
		for place := range ways(l, of(at+1), goes) {
			isRead = isRead || reads(c, l[place], x.A)
		}
		if !isRead {
			found = append(found, at)
		}
	}
	return found
}

// reads reports whether an instruction reads a cell, or ends the unit.
func reads(c api.Code, x api.Instr, cell int) bool {
	first, count := x.A, 1
	switch x.Op {
	case api.IReturn:
		return true
	case api.ILoad:
	case api.ILoadX:
		count = x.B
	case api.IPart:
		variables, _ := types.Standard(parts.Names()[x.A])
		first, count = x.B, len(variables)
	case api.IUnit:
		first, count = x.B, c.Units[x.A].Cells
	default:
		return false
	}
	return cell >= first && cell < first+count
}

// isPart reports whether one list has the instructions of another one in its order, whatever jumps lead to.
func isPart(l, whole []api.Instr) bool {
	for _, x := range l {
		at := slices.IndexFunc(whole, func(y api.Instr) bool {
			return x.Op == y.Op && (x.A == y.A || x.Op == api.IJump || x.Op == api.IFalse) && x.B == y.B
		})
		if at < 0 {
			return false
		}
		whole = whole[at+1:]
	}
	return true
}
