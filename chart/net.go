package chart

import (
	"iter"

	"winch/api"
)

// maxMoves is how many transitions a chart can have whose situations are looked for.
const maxMoves = 12

// net is a flattened chart of which nothing is left but what says how it evolves.
type net struct {
	names     []string
	positions map[string]int
	moves     []move
	initial   situation
}

func newNet(flat api.Chart) net {
	n := net{positions: map[string]int{}}
	for i, s := range flat.Steps {
		n.names = append(n.names, s.Name)
		n.positions[s.Name] = i
		n.initial[i] = s.Initial
	}
	for _, t := range flat.Trans {
		from, _ := n.situation(t.From)
		to, _ := n.situation(t.To)
		n.moves = append(n.moves, move{from, to})
	}
	return n
}

// situation returns the situation in which some steps are active; false if their names are not different ones of steps.
func (n net) situation(active []string) (situation, bool) {
	var s situation
	for _, name := range active {
		i, known := n.positions[name]
		if !known || s[i] {
			return situation{}, false
		}
		s[i] = true
	}
	return s, true
}

// active returns the names of the steps that are active in a situation.
func (n net) active(s situation) []string {
	var l []string
	for i, name := range n.names {
		if s[i] {
			l = append(l, name)
		}
	}
	return l
}

// arePositions reports whether a list has positions of n transitions, ascending.
func arePositions(l []int, n int) bool {
	last := -1
	for _, i := range l {
		if i <= last || i >= n {
			return false
		}
		last = i
	}
	return true
}

// evolve returns the situation after one evolution in which the conditions at some positions, which ascend, are true.
func (n net) evolve(s situation, on []int) situation {
	e := evolution{before: s}
	for _, i := range on {
		if e.canFire(n.moves[i]) {
			e = e.fire(n.moves[i])
		}
	}
	return e.after()
}

// evolutions visits the situations after one evolution with any conditions. A transition that cannot fire is passed over, as its
// condition does not matter.
func (n net) evolutions(s situation) iter.Seq[situation] {
	return func(yield func(situation) bool) {
		var from func(i int, e evolution) bool
		from = func(i int, e evolution) bool {
			if i == len(n.moves) {
				return yield(e.after())
			}
			m := n.moves[i]
			if e.canFire(m) && !from(i+1, e.fire(m)) {
				return false
			}
			return from(i+1, e)
		}
		from(0, evolution{before: s})
	}
}

// reach returns the situations that are reached from the initial one; false if there are too many.
func (n net) reach() ([]situation, bool) {
	known := map[situation]bool{n.initial: true}
	reached := []situation{n.initial}
	fits := true
search:
	for i := 0; i < len(reached); i++ {
		for s := range n.evolutions(reached[i]) {
			if known[s] {
				continue
			}
			if len(reached) == api.MaxPlaces {
				fits = false
				break search
			}
			known[s] = true
			reached = append(reached, s)
		}
	}
	return reached, fits
}

// explore returns the net of a chart with the situations that are reached in it.
func explore(c api.Chart) (net, []situation, api.Errno) {
	f, err := Flatten(c)
	if err != api.OK {
		return net{}, nil, err
	}
	n := newNet(f)
	if len(n.moves) > maxMoves {
		return net{}, nil, api.ErrFull
	}
	situations, fits := n.reach()
	if !fits {
		return net{}, nil, api.ErrFull
	}
	return n, situations, api.OK
}

// activatesTwice reports whether a transition that fires in a situation activates a step that is active, and was not taken. If
// one does so, it does so, too, when no other condition is true.
func (n net) activatesTwice(s situation) bool {
	e := evolution{before: s}
	for _, m := range n.moves {
		left := s.without(m.from)
		if e.canFire(m) && left.without(m.to) != left {
			return true
		}
	}
	return false
}
