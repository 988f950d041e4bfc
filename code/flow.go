package code

import (
	"iter"
	"slices"

	"winch/api"
	"winch/parts"
)

// notReached is the depth before places that can't be reached.
const notReached = -1

// following visits the places that can come after one.
func following(l []api.Instr, at int) iter.Seq[int] {
	return func(yield func(int) bool) {
		x := l[at]
		if !ends(x) && !yield(at+1) {
			return
		}
		if x.Op == api.IJump || x.Op == api.IFalse {
			yield(x.A)
		}
	}
}

// depths returns the depth of the stack before each place of a unit, whose instructions are such; false if the depths do not fit.
func (s site) depths() ([]int, bool) {
	depths := slices.Repeat([]int{notReached}, len(s.Code))
	depths[0] = 0
	waiting := []int{0}
	for len(waiting) > 0 {
		last := len(waiting) - 1
		at := waiting[last]
		waiting = waiting[:last]
		depth := depths[at]
		needs, change := s.effect(s.Code[at])
		if depth < needs || s.Code[at].Op == api.IReturn && depth > 0 {
			return nil, false
		}
		after := depth + change
		for next := range following(s.Code, at) {
			switch {
			case depths[next] == notReached && after <= api.MaxStack:
				depths[next] = after
				waiting = append(waiting, next)
			case depths[next] != after:
				return nil, false
			}
		}
	}
	return depths, true
}

// timed reports for each unit of a valid code up to a position whether it depends on the time. What a unit executes comes before it.
func (t *tables) timed(last int) []bool {
	names := parts.Names()
	var timed []bool
	for at := range last + 1 {
		s := t.site(at)
		depths, _ := s.depths()
		is := false
		for place, x := range s.Code {
			if depths[place] == notReached {
				continue
			}
			switch x.Op {
			case api.INow:
				is = true
			case api.IPart:
				is = is || parts.IsTimed(names[x.A])
			case api.ICall, api.IUnit:
				is = is || timed[x.A]
			}
		}
		timed = append(timed, is)
	}
	return timed
}
