package chart

import (
	"math"
	"slices"

	"winch/api"
	"winch/lexis"
	"winch/measure"
	"winch/syntax"
)

// maxMacros is how deep macros can be nested.
const maxMacros = 4

// meter counts the nodes of charts. Only statements and expressions have a depth.
type meter struct {
	measure.Meter
}

// isChart reports whether a chart is well formed, and no macro.
func isChart(c api.Chart) bool {
	var m meter
	return c.Name == "" && c.In == "" && c.Out == "" && m.chart(c, 0) && slices.ContainsFunc(c.Steps, isInitial)
}

// chart reports whether a chart is well formed that stands in so many macros.
func (m *meter) chart(c api.Chart, nested int) bool {
	return measure.All(c.Steps, 0, m.step) && measure.All(c.Trans, 0, m.trans) && measure.All(c.Inner, nested+1, m.macro) &&
		areConnected(c) && areMacrosOfSteps(c)
}

func (m *meter) macro(c api.Chart, nested int) bool {
	return nested <= maxMacros && m.Enter(0) && lexis.IsName(c.Name) && m.chart(c, nested) &&
		isPlainStep(c, c.In) && isPlainStep(c, c.Out) && !slices.ContainsFunc(c.Steps, isInitial)
}

func (m *meter) step(s api.Step, depth int) bool {
	return m.Enter(depth) && lexis.IsName(s.Name) && measure.All(s.Actions, depth, m.action)
}

// action reports whether an action is well formed. If there is no such qualifier, no time fits.
func (m *meter) action(a api.Action, depth int) bool {
	longest := byQualifier(a.Q, 0, 0, math.MaxInt32, -1)
	return m.Enter(depth) && a.Time >= 0 && a.Time <= longest && m.variableOrText(a)
}

// variableOrText reports whether an action has a variable, or statements that its qualifier allows.
func (m *meter) variableOrText(a api.Action) bool {
	if a.Name != "" {
		return lexis.IsName(a.Name) && len(a.Body) == 0
	}
	n, _, err := syntax.Nodes(a.Body)
	return byQualifier(a.Q, true, false, true, false) && err == api.OK && m.Add(n)
}

func (m *meter) trans(t api.Trans, depth int) bool {
	return m.Enter(depth) && m.Expression(t.When, depth+1)
}

// areConnected reports whether steps have different names, and all transitions are between steps.
func areConnected(c api.Chart) bool {
	steps := map[string]bool{}
	for _, s := range c.Steps {
		steps[s.Name] = true
	}
	for _, t := range c.Trans {
		if !areSteps(t.From, steps) || !areSteps(t.To, steps) {
			return false
		}
	}
	return len(steps) == len(c.Steps)
}

// areSteps reports whether there are names in a list, all of them different, and of steps.
func areSteps(l []string, steps map[string]bool) bool {
	there := map[string]bool{}
	for _, name := range l {
		if !steps[name] || there[name] {
			return false
		}
		there[name] = true
	}
	return len(l) > 0
}

// areMacrosOfSteps reports whether macros have different names, and each one stands in the place of at most one step, which has
// nothing else to do.
func areMacrosOfSteps(c api.Chart) bool {
	free := map[string]bool{}
	for _, m := range c.Inner {
		free[m.Name] = true
	}
	if len(free) < len(c.Inner) {
		return false
	}
	for _, s := range c.Steps {
		if s.Macro == "" {
			continue
		}
		if !free[s.Macro] || len(s.Actions) > 0 {
			return false
		}
		free[s.Macro] = false
	}
	return true
}

// haveDifferentNames reports whether the names of all members of a list are different.
func haveDifferentNames[T any](l []T, name func(T) string) bool {
	there := map[string]bool{}
	for _, x := range l {
		there[name(x)] = true
	}
	return len(there) == len(l)
}

func stepName(s api.Step) string {
	return s.Name
}

func isInitial(s api.Step) bool {
	return s.Initial
}

// isPlainStep reports whether a chart has a step with a name that no macro stands for.
func isPlainStep(c api.Chart, name string) bool {
	return slices.ContainsFunc(c.Steps, func(s api.Step) bool { return s.Name == name && s.Macro == "" })
}
