package ladder

import "winch/api"

// element is an element of a ladder, as one of the types below.
type element interface {
	// text returns its text, if it is well formed.
	text() string
}

// wire lets all power through.
type wire struct{}

// contact lets power through as its variable says.
type contact struct {
	name string
	mark int
}

// comparison lets power through if its only expression is true.
type comparison struct {
	arg []api.Expr
}

// series has parts through all of which power flows.
type series struct {
	parts []api.Power
}

// parallel has parts through one of which power flows.
type parallel struct {
	parts []api.Power
}

// box gives power to the first of the inputs of a block, and passes on one of its outputs.
type box struct {
	name   string
	fields []string
	args   []api.Expr
	out    string
}

// elementOf returns what an element is, whatever its parts and expressions are. It is nil if there is no such operator, or if
// there is something in a field that the operator does not have: what it has is cleared in a copy, of which nothing must be left.
func elementOf(p api.Power) element {
	var e element
	rest := p
	rest.Op = 0
	switch p.Op {
	case api.PTrue:
		e = wire{}
	case api.PContact:
		e = contact{p.Name, p.Mark}
		rest.Name, rest.Mark = "", 0
	case api.PCompare:
		e = comparison{p.Arg}
		rest.Arg = nil
	case api.PSeries:
		e = series{p.Parts}
		rest.Parts = nil
	case api.PParallel:
		e = parallel{p.Parts}
		rest.Parts = nil
	case api.PBox:
		e = box{p.Name, p.Fields, p.Args, p.Out}
		rest.Name, rest.Fields, rest.Args, rest.Out = "", nil, nil, ""
	}
	if !samePower(rest, api.Power{}) {
		return nil
	}
	return e
}
