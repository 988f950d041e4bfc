package direct

import (
	"slices"

	"winch/api"
	"winch/eval"
)

// ending is how the execution of statements ends.
type ending interface{ skips() bool }

// goesOn is the ending after which comes what follows; exits ends the innermost loop, and returns the body.
type (
	goesOn  struct{}
	exits   struct{}
	returns struct{}
)

func (goesOn) skips() bool  { return false }
func (exits) skips() bool   { return true }
func (returns) skips() bool { return true }

func (f *frame) text() {
	f.statements(f.unit.Body.Text)
}

// statements executes statements, up to the first one behind which nothing is executed.
func (f *frame) statements(l []api.Stmt) ending {
	for _, x := range l {
		f.step()
		if e := f.statement(x); e.skips() {
			return e
		}
	}
	return goesOn{}
}

func (f *frame) statement(x api.Stmt) ending {
	switch x.Op {
	case api.SSet:
		f.assign(x)
	case api.SCall:
		f.call(x.Name, x.Fields, func(at int) int { return f.value(x.Args[at]) })
	case api.SIf:
		return f.statements(f.branch(x))
	case api.SCase:
		return f.statements(f.choice(x))
	case api.SFor:
		return f.loop(x.Body, f.counting(x))
	case api.SWhile:
		return f.loop(x.Body, func() bool { return f.looksAt(x.Args[0]) == 1 })
	case api.SRepeat:
		return f.loop(x.Body, f.repeating(x))
	case api.SExit:
		return exits{}
	case api.SReturn:
		return returns{}
	}
	return goesOn{}
}

func (f *frame) assign(x api.Stmt) {
	v := f.value(x.Args[0])
	at := f.places[x.Name].at
	if len(x.Index) > 0 {
		at = f.element(x.Name, f.value(x.Index[0]))
	}
	f.cells[at] = v
}

// looksAt returns the value of a condition, which is a step.
func (f *frame) looksAt(e api.Expr) int {
	f.step()
	return f.value(e)
}

// branch returns the statements of an if that are to be executed.
func (f *frame) branch(x api.Stmt) []api.Stmt {
	if f.looksAt(x.Args[0]) == 1 {
		return x.Body
	}
	for _, a := range x.Arms {
		if f.looksAt(a.If[0]) == 1 {
			return a.Body
		}
	}
	return x.Other
}

// choice returns the statements of a case that are to be executed.
func (f *frame) choice(x api.Stmt) []api.Stmt {
	v := f.value(x.Args[0])
	for _, a := range x.Arms {
		f.step()
		if slices.Contains(a.Labels, v) {
			return a.Body
		}
	}
	return x.Other
}

// loop executes statements again and again, as long as the loop continues.
func (f *frame) loop(body []api.Stmt, continues func() bool) ending {
	for continues() {
		switch e := f.statements(body).(type) {
		case exits:
			return goesOn{}
		case returns:
			return e
		}
	}
	return goesOn{}
}

// counting returns whether a for continues, whenever it is asked, and sets its variable then. What else sets the variable does not
// matter for the numbers that it counts.
func (f *frame) counting(x api.Stmt) func() bool {
	bounds := f.values(x.Args)
	i := bounds[0]
	return func() bool {
		if !eval.IsValue(i) {
			return false
		}
		f.step()
		if x.N > 0 && i > bounds[1] || x.N < 0 && i < bounds[1] {
			return false
		}
		f.set(x.Name, i)
		i += x.N
		return true
	}
}

// repeating returns whether a repeat continues, whenever it is asked; there is no look before the first time.
func (f *frame) repeating(x api.Stmt) func() bool {
	isFirst := true
	return func() bool {
		if isFirst {
			isFirst = false
			return true
		}
		return f.looksAt(x.Args[0]) == 0
	}
}
