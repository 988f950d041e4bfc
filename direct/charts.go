package direct

import (
	"winch/api"
	"winch/eval"
)

// isNew is what the first hidden cell of an initial step is before its first scan, in which it enters.
const isNew = 2

// change is what an evolution has done to a step.
type change struct{ isActive, enters, leaves bool }

func (f *frame) chart() {
	steps := f.flat.Steps
	states, times := f.cells[f.hidden:], f.cells[f.hidden+len(steps):]
	changes := f.evolve(f.conditions())
	for i, c := range changes {
		states[i] = countIf(c.isActive)
		if c.enters {
			times[i] = f.now
		}
	}
	f.clearVariables()
	for i, s := range steps {
		f.step()
		for _, a := range s.Actions {
			if changes[i].isOn(a, eval.Wrap(f.now-times[i])) {
				f.action(a)
			}
		}
	}
}

// conditions returns which transitions have a condition that is true.
func (f *frame) conditions() []bool {
	var on []bool
	for _, t := range f.flat.Trans {
		on = append(on, f.looksAt(t.When) == 1)
	}
	return on
}

// evolve returns what the transitions with true conditions do to the steps, if they fire.
func (f *frame) evolve(on []bool) []change {
	steps := len(f.flat.Steps)
	states := f.cells[f.hidden : f.hidden+steps]
	taken, given := make([]bool, steps), make([]bool, steps)
	canFire := func(t api.Trans) bool {
		for _, name := range t.From {
			if i := f.labels[name]; states[i] == 0 || taken[i] {
				return false
			}
		}
		return true
	}
	for i, t := range f.flat.Trans {
		if !on[i] || !canFire(t) {
			continue
		}
		f.mark(taken, t.From)
		f.mark(given, t.To)
	}
	changes := make([]change, steps)
	for i, state := range states {
		was := state != 0
		is := was && !taken[i] || given[i]
		changes[i] = change{isActive: is, enters: is && (!was || taken[i] || state == isNew), leaves: was && !is}
	}
	return changes
}

// mark marks the steps that have some names.
func (f *frame) mark(steps []bool, names []string) {
	for _, name := range names {
		steps[f.labels[name]] = true
	}
}

// clearVariables sets all variables to 0 that actions set to 1 for one scan.
func (f *frame) clearVariables() {
	for _, s := range f.flat.Steps {
		for _, a := range s.Actions {
			if a.Name != "" && a.Q != api.QSet && a.Q != api.QReset {
				f.set(a.Name, 0)
			}
		}
	}
}

// isOn reports whether an action of a step is on, which was entered some time ago.
func (c change) isOn(a api.Action, ago int) bool {
	switch a.Q {
	case api.QWhile, api.QSet, api.QReset:
		return c.isActive
	case api.QLimit:
		return c.isActive && ago < a.Time
	case api.QDelay:
		return c.isActive && ago >= a.Time
	case api.QEnter:
		return c.enters
	case api.QLeave:
		return c.leaves
	}
	return false
}

// action executes an action that is on.
func (f *frame) action(a api.Action) {
	if a.Name != "" {
		f.set(a.Name, negatedIf(a.Q == api.QReset, 1))
		return
	}
	f.statements(a.Body)
}
