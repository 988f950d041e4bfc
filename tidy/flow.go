package tidy

import "winch/api"

// places is a set of places of a unit.
type places [api.MaxCode]bool

// jumps reports whether an instruction can lead to the place A.
func jumps(x api.Instr) bool {
	return x.Op == api.IJump || x.Op == api.IFalse
}

// goesOn reports whether an instruction can lead to the place after it.
func goesOn(x api.Instr) bool {
	return x.Op != api.IJump && x.Op != api.IReturn
}

// all returns the set of so many places.
func all(count int) places {
	var set places
	for at := range count {
		set[at] = true
	}
	return set
}

// reached returns the places that can be reached.
func reached(l []api.Instr) places {
	var set places
	waiting := []int{0}
	for len(waiting) > 0 {
		last := len(waiting) - 1
		at := waiting[last]
		waiting = waiting[:last]
		if set[at] {
			continue
		}
		set[at] = true
		if x := l[at]; jumps(x) {
			waiting = append(waiting, x.A)
		}
		if goesOn(l[at]) {
			waiting = append(waiting, at+1)
		}
	}
	return set
}

// led returns the places to which jumps lead that can be reached.
func led(l []api.Instr) places {
	from := reached(l)
	var set places
	for at, x := range l {
		if from[at] && jumps(x) {
			set[x.A] = true
		}
	}
	return set
}

// ends returns for each place where the IJumps lead at last that begin there: the place itself, if there is none, or if they lead
// back to it.
func ends(l []api.Instr) map[int]int {
	found := map[int]int{}
	for at := range l {
		var way []int
		visited := map[int]bool{}
		x := at
		for l[x].Op == api.IJump && !visited[x] {
			if _, known := found[x]; known {
				break
			}
			visited[x] = true
			way = append(way, x)
			x = l[x].A
		}
		if visited[x] {
			way = leadBack(found, way, x)
		}
		if _, known := found[x]; !known {
			found[x] = x
		}
		for _, y := range way {
			found[y] = found[x]
		}
	}
	return found
}

// leadBack ends the last IJumps of a way where they are, those behind the one to which the last one leads back. It returns those before
// that one.
func leadBack(found map[int]int, way []int, to int) []int {
	last := len(way) - 1
	for way[last] != to {
		found[way[last]] = way[last]
		last--
	}
	return way[:last]
}

// isTidy reports whether instructions are tidy.
func isTidy(l []api.Instr) bool {
	if reached(l) != all(len(l)) {
		return false
	}
	targets := led(l)
	end := ends(l)
	for at, x := range l {
		if jumps(x) && end[x.A] != x.A || isNextJump(l, at) {
			return false
		}
		if isPicked(l, at, targets) || isUnaryConst(l, at, targets) {
			return false
		}
	}
	return true
}

// isNextJump reports whether an IJump leads to the place after it.
func isNextJump(l []api.Instr, at int) bool {
	return l[at].Op == api.IJump && l[at].A == at+1
}

// isPicked reports whether an IPick is followed by an IDrop to which no jump leads.
func isPicked(l []api.Instr, at int, targets places) bool {
	return areNext(l, at, targets, api.IPick, api.IDrop)
}

// isUnaryConst reports whether an IConst is followed by an IUnary to which no jump leads.
func isUnaryConst(l []api.Instr, at int, targets places) bool {
	return areNext(l, at, targets, api.IConst, api.IUnary)
}

func areNext(l []api.Instr, at int, targets places, first, second int) bool {
	return at+1 < len(l) && l[at].Op == first && l[at+1].Op == second && !targets[at+1]
}
