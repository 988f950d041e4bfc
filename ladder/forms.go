package ladder

import (
	"slices"

	"winch/api"
	"winch/lexis"
	"winch/measure"
)

// meter counts the nodes of ladders.
type meter struct {
	measure.Meter
}

// areRungs reports whether each rung is one that the grammar has, and whether there are not too many nodes, nor too deep ones.
func areRungs(l []api.Rung) bool {
	var m meter
	return measure.All(l, 0, m.rung)
}

func (m *meter) rung(x api.Rung, depth int) bool {
	return m.Enter(depth) && measure.IsNameIf(x.Label != "", x.Label) && m.element(x.Power, depth+1) &&
		len(x.Coils) > 0 && measure.All(x.Coils, depth+1, m.coil)
}

func (m *meter) element(p api.Power, depth int) bool {
	if !m.Enter(depth) {
		return false
	}
	switch e := elementOf(p).(type) {
	case wire:
		return true
	case contact:
		return lexis.IsName(e.name) && e.mark >= api.MPlain && e.mark <= api.MFall
	case comparison:
		return len(e.arg) == 1 && m.Expressions(e.arg, depth+1)
	case series:
		return m.parts(e.parts, depth+1)
	case parallel:
		return m.parts(e.parts, depth+1)
	case box:
		return lexis.IsName(e.name) && lexis.IsName(e.out) && measure.AreNames(e.fields) &&
			len(e.fields) == len(e.args)+1 && m.Expressions(e.args, depth+1)
	}
	return false
}

func (m *meter) parts(l []api.Power, depth int) bool {
	return len(l) > 1 && measure.All(l, depth, m.element)
}

func (m *meter) coil(c api.Coil, depth int) bool {
	return m.Enter(depth) && c.Mark >= api.MPlain && c.Mark <= api.MReturn && measure.IsNameIf(c.Mark != api.MReturn, c.Name)
}

// areCoilsInPlace reports whether nothing follows a jump or a return in its rung.
func areCoilsInPlace(l []api.Rung) bool {
	leaves := func(c api.Coil) bool { return c.Mark == api.MJump || c.Mark == api.MReturn }
	for _, x := range l {
		if slices.ContainsFunc(x.Coils[:len(x.Coils)-1], leaves) {
			return false
		}
	}
	return true
}

// haveLabels reports whether all labels are different, and every jump has its label further down.
func haveLabels(l []api.Rung) bool {
	later := map[string]bool{}
	for _, x := range slices.Backward(l) {
		for _, c := range x.Coils {
			if c.Mark == api.MJump && !later[c.Name] {
				return false
			}
		}
		if later[x.Label] {
			return false
		}
		later[x.Label] = x.Label != ""
	}
	return true
}

// isPower reports whether an element is the power of a rung of a well formed ladder; the smallest one has a coil besides.
func isPower(p api.Power) bool {
	return Check([]api.Rung{{Power: p, Coils: []api.Coil{{Mark: api.MReturn}}}}) == api.OK
}
