package chart

import "winch/api"

// situation says of each step of a flattened chart, by its position, whether it is active.
type situation [api.MaxSteps]bool

func (s situation) with(other situation) situation {
	for i, is := range other {
		s[i] = s[i] || is
	}
	return s
}

func (s situation) without(other situation) situation {
	for i, is := range other {
		s[i] = s[i] && !is
	}
	return s
}

// move is a transition of a flattened chart.
type move struct{ from, to situation }

// evolution is what has happened to a situation up to some transition: which steps were taken, and which will be active then.
type evolution struct{ before, taken, given situation }

func (e evolution) canFire(m move) bool {
	for i, is := range m.from {
		if is && (!e.before[i] || e.taken[i]) {
			return false
		}
	}
	return true
}

func (e evolution) fire(m move) evolution {
	return evolution{e.before, e.taken.with(m.from), e.given.with(m.to)}
}

func (e evolution) after() situation {
	return e.before.without(e.taken).with(e.given)
}
