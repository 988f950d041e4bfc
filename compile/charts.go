package compile

import (
	"winch/api"
	"winch/chart"
)

// What is in the first hidden cell of a step during a scan: 1 of one that is active, and does not enter. At its end that of an active
// step is 1, that of another one is 0.
const (
	leaves   = -1
	inactive = 0
	enters   = 2
)

// steps writes a flattened chart: places has the positions of its steps.
type steps struct {
	*unit
	flat   api.Chart
	places map[string]int
}

func (u *unit) chart() {
	s := &steps{unit: u, places: map[string]int{}}
	s.flat, _ = chart.Flatten(u.source.Body.Chart)
	for i, x := range s.flat.Steps {
		s.places[x.Name] = i
		s.begin(i)
	}
	for _, t := range s.flat.Trans {
		s.take(t)
	}
	for i := len(s.flat.Trans) - 1; i >= 0; i-- {
		s.give(s.flat.Trans[i])
	}
	for i := range s.flat.Steps {
		skip := s.unlessState(i, api.EEq, enters)
		s.add(api.INow, 0, 0, 1)
		s.keep(s.since(i))
		skip()
	}
	s.clearVariables()
	for i, x := range s.flat.Steps {
		for _, a := range x.Actions {
			s.action(i, a)
		}
	}
	for i := range s.flat.Steps {
		s.compareState(i, api.EGt, inactive)
		s.keep(s.state(i))
	}
}

// state is the first hidden cell of the step at a position, since the second one, with the time at which it was entered.
func (s *steps) state(at int) cell { return cell(s.hidden + at) }
func (s *steps) since(at int) cell { return cell(s.hidden + len(s.flat.Steps) + at) }

// compareState pushes whether the state of the step at a position compares to another one.
func (s *steps) compareState(at, op, state int) {
	s.compare(int(s.state(at)), op, state)
}

// unlessState writes a jump that is executed if the state of a step does not compare to another one.
func (s *steps) unlessState(at, op, state int) (land func()) {
	s.compareState(at, op, state)
	return s.jump(api.IFalse)
}

// begin makes of any value that the first hidden cell of a step can have at the beginning of a scan one of the states.
func (s *steps) begin(at int) {
	s.compareState(at, api.ENe, inactive)
	s.compareState(at, api.EEq, enters)
	s.binary(api.EAdd)
	s.keep(s.state(at))
}

// take pushes whether a transition fires, and takes the steps from which it leads. Those to which transitions lead become active when
// all transitions have been visited.
func (s *steps) take(t api.Trans) {
	s.value(t.When)
	for _, name := range t.From {
		s.compareState(s.places[name], api.EGt, inactive)
		s.binary(api.EAnd)
	}
	s.pick(0)
	skip := s.jump(api.IFalse)
	for _, name := range t.From {
		s.constant(leaves)
		s.keep(s.state(s.places[name]))
	}
	skip()
}

// give pops whether a transition has fired, and makes the steps active to which it leads: those enter that were not active, or were
// taken.
func (s *steps) give(t api.Trans) {
	skip := s.jump(api.IFalse)
	for _, name := range t.To {
		at := s.places[name]
		isActive := s.unlessState(at, api.ELe, inactive)
		s.constant(enters)
		s.keep(s.state(at))
		isActive()
	}
	skip()
}

// clearVariables sets all variables to 0 that actions set to 1 for one scan.
func (s *steps) clearVariables() {
	cleared := map[string]bool{"": true}
	for _, x := range s.flat.Steps {
		for _, a := range x.Actions {
			if !cleared[a.Name] && a.Q != api.QSet && a.Q != api.QReset {
				cleared[a.Name] = true
				s.constant(0)
				s.keep(s.named(a.Name))
			}
		}
	}
}

// action writes an action of the step at a position, which is executed if it is on.
func (s *steps) action(at int, a api.Action) {
	s.isOn(at, a)
	if a.Name != "" {
		s.setIf(a.Name, a.Q != api.QReset)
		return
	}
	skip := s.jump(api.IFalse)
	s.statements(a.Body)
	skip()
}

// isOn pushes whether an action of the step at a position is on.
func (s *steps) isOn(at int, a api.Action) {
	switch a.Q {
	case api.QEnter:
		s.compareState(at, api.EEq, enters)
	case api.QLeave:
		s.compareState(at, api.EEq, leaves)
	default:
		s.compareState(at, api.EGt, inactive)
	}
	if a.Q == api.QLimit || a.Q == api.QDelay {
		s.add(api.INow, 0, 0, 1)
		s.load(int(s.since(at)))
		s.binary(api.ESub)
		s.constant(a.Time)
		if a.Q == api.QLimit {
			s.binary(api.ELt)
		} else {
			s.binary(api.EGe)
		}
		s.binary(api.EAnd)
	}
}
