package lower

import (
	"math"

	"winch/api"
	"winch/chart"
)

// What a step is, from the evolution to the end of a scan. At its beginning steps are inactive or active; those that are initial
// enter in the first scan. The numbers are such that active ones are greater than leaves, and that a half of them, doubled, is what
// they are in the next scan.
const (
	leaves = 1
	active = 2
	enters = 3
)

// steps makes statements of a flattened chart: labels has the positions of its steps.
type steps struct {
	*work
	flat   api.Chart
	labels map[string]int
	// states and given are arrays: what the steps are, and which ones an evolution has activated; each is a variable for positions.
	states, given, each string
	// clock is a timer that always runs, since an array with the times at which steps were entered, by it; there are none, if no
	// action waits.
	clock, since string
}

// chart returns the statements of a chart.
func (w *work) chart() []api.Stmt {
	s := &steps{work: w, labels: map[string]int{}}
	s.flat, _ = chart.Flatten(w.unit.Body.Chart)
	var first []int
	for i, x := range s.flat.Steps {
		s.labels[x.Name] = i
		if x.Initial {
			first = append(first, enters)
		} else {
			first = append(first, 0)
		}
	}
	count := len(first)
	s.states = w.fresh("state", api.Type{Kind: api.KInt, N: count}, first...)
	s.given = w.fresh("given", api.Type{Kind: api.KBool, N: count})
	s.each = w.cell("each", api.KInt)
	var clock []api.Stmt
	if s.waits() {
		s.clock = w.fresh("clock", api.Type{Kind: api.KBlock, Block: "ton"})
		s.since = w.fresh("since", api.Type{Kind: api.KTime, N: count})
		clock = of(call(s.clock, of("in", "pt"), of(truth(true), time(math.MaxInt32))))
	}
	return joined(clock, s.transitions(), of(s.evolution()), s.cleared(), s.actions(), of(s.settled()))
}

// waits reports whether some action waits for a time.
func (s *steps) waits() bool {
	for _, x := range s.flat.Steps {
		for _, a := range x.Actions {
			if a.Q == api.QLimit || a.Q == api.QDelay {
				return true
			}
		}
	}
	return false
}

// transitions returns the statements in which transitions fire. All of their conditions are computed, and nothing that they can read
// is changed, so that it is as if they were computed first.
func (s *steps) transitions() []api.Stmt {
	var all []api.Stmt
	for _, t := range s.flat.Trans {
		conditions := of(t.When)
		var body []api.Stmt
		for _, from := range t.From {
			conditions = append(conditions, s.compare(api.EGt, s.labels[from], leaves))
			body = append(body, setElement(s.states, number(s.labels[from]), number(leaves)))
		}
		for _, to := range t.To {
			body = append(body, setElement(s.given, number(s.labels[to]), truth(true)))
		}
		all = joined(all, whenAll(conditions, body...))
	}
	return all
}

// compare returns whether what the step at a position is compares to something.
func (s *steps) compare(op, at, state int) api.Expr {
	return binary(op, element(s.states, number(at)), number(state))
}

// evolution returns the statement after which states has what each step is. A step that was active, and was not taken, does not enter.
func (s *steps) evolution() api.Stmt {
	each := name(s.each)
	state := element(s.states, each)
	isGiven := binary(api.EAnd, element(s.given, each), binary(api.ENe, state, number(active)))
	body := of(when(isGiven, setElement(s.states, each, number(enters))), setElement(s.given, each, truth(false)))
	if s.clock != "" {
		body = append(body, when(binary(api.EEq, state, number(enters)), setElement(s.since, each, field(s.clock, "et"))))
	}
	return eachOf(s.each, len(s.flat.Steps), body...)
}

// cleared returns the statements that set all variables to false which actions set to true for one scan.
func (s *steps) cleared() []api.Stmt {
	var all []api.Stmt
	there := map[string]bool{}
	for _, x := range s.flat.Steps {
		for _, a := range x.Actions {
			if a.Name != "" && a.Q != api.QSet && a.Q != api.QReset && !there[a.Name] {
				there[a.Name] = true
				all = append(all, set(a.Name, truth(false)))
			}
		}
	}
	return all
}

// actions returns the statements that execute the actions that are on.
func (s *steps) actions() []api.Stmt {
	var all []api.Stmt
	for i, x := range s.flat.Steps {
		for _, a := range x.Actions {
			body := a.Body
			if a.Name != "" {
				body = of(set(a.Name, truth(a.Q != api.QReset)))
			}
			all = append(all, when(s.isOn(i, a), body...))
		}
	}
	return all
}

// isOn returns whether an action of the step at a position is on.
func (s *steps) isOn(at int, a api.Action) api.Expr {
	isActive := s.compare(api.EGt, at, leaves)
	switch a.Q {
	case api.QLimit, api.QDelay:
		ago := binary(api.ESub, field(s.clock, "et"), element(s.since, number(at)))
		op := api.ELt
		if a.Q == api.QDelay {
			op = api.EGe
		}
		return binary(api.EAnd, isActive, binary(op, ago, time(a.Time)))
	case api.QEnter:
		return s.compare(api.EEq, at, enters)
	case api.QLeave:
		return s.compare(api.EEq, at, leaves)
	}
	return isActive
}

// settled returns the statement after which no step enters or leaves any more.
func (s *steps) settled() api.Stmt {
	each := name(s.each)
	half := binary(api.EDiv, element(s.states, each), number(2))
	return eachOf(s.each, len(s.flat.Steps), setElement(s.states, each, binary(api.EMul, half, number(2))))
}
