package diagram

import "winch/api"

// taken is what a pin takes, as one of the types below.
type taken interface {
	// text returns its text, if it is well formed.
	text() string
}

// result is that of the node with a number.
type result struct {
	from int
}

// value is that of an expression.
type value struct {
	e api.Expr
}

// takenBy returns what a pin takes; nil if that is nothing, or more than one thing.
func takenBy(p api.Pin) taken {
	switch {
	case p.From != 0 && len(p.Arg) == 0:
		return result{p.From}
	case p.From == 0 && len(p.Arg) == 1:
		return value{p.Arg[0]}
	}
	return nil
}

// takesFrom reports whether one of the pins of a node takes the result of a node whose number is one that is looked for.
func takesFrom(n api.Node, isWanted func(number int) bool) bool {
	for _, p := range n.Pins {
		if r, is := takenBy(p).(result); is && isWanted(r.from) {
			return true
		}
	}
	return false
}
