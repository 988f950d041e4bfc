package check

import (
	"slices"

	"winch/api"
	"winch/eval"
	"winch/ladder"
	"winch/project"
	"winch/types"
)

// survey checks a project from its first unit to its last task; at is the position to which it has come.
type survey struct {
	p  api.Project
	at int
	// named has the position of the first unit with each name.
	named map[string]int
	// addresses has those of the outputs that have been checked.
	addresses map[string]bool
}

// soundOf returns the survey of a project, and its first error.
func soundOf(p api.Project) (*survey, api.Errno) {
	s := newSurvey(p)
	return s, s.run(append(s.steps(), s.body))
}

// frameOf returns the survey of a project, and its first error apart from those of bodies.
func frameOf(p api.Project) (*survey, api.Errno) {
	s := newSurvey(p)
	return s, s.run(s.steps())
}

func newSurvey(p api.Project) *survey {
	s := &survey{p: p, named: map[string]int{}, addresses: map[string]bool{}}
	for i, u := range slices.Backward(p.Units) {
		s.named[u.Name] = i
	}
	return s
}

// has reports whether a number is the position of a unit.
func (s *survey) has(unit int) bool {
	return unit >= 0 && unit < len(s.p.Units)
}

// run checks all units, each one by some steps, and all tasks.
func (s *survey) run(steps []func(unit int)) api.Errno {
	if project.Check(s.p) != api.OK {
		return api.ErrArg
	}
	return caught(func() {
		for i := range s.p.Units {
			s.at = i
			for _, step := range steps {
				step(i)
			}
		}
		s.tasks()
		s.at = len(s.p.Units)
	})
}

// steps returns what is checked of a unit, in this order, before its body.
func (s *survey) steps() []func(unit int) {
	return []func(int){s.name, s.variables, s.function, s.places, s.layout, s.ring}
}

// name checks that nothing before a unit has its name.
func (s *survey) name(unit int) {
	name := s.p.Units[unit].Name
	_, isBlock := types.Standard(name)
	failIf(s.named[name] != unit || isBlock || isStandardFunction(name), api.ErrTwice)
}

func isStandardFunction(name string) bool {
	_, _, err := eval.Kinds(name)
	return err == api.OK
}

// variables checks that the names of the variables of a unit are different, and not its own.
func (s *survey) variables(unit int) {
	u := s.p.Units[unit]
	there := map[string]bool{u.Name: true}
	for _, v := range u.Vars {
		failIf(there[v.Name], api.ErrTwice)
		there[v.Name] = true
	}
}

// function checks that a function, if it is one, has nothing that remains after a call.
func (s *survey) function(unit int) {
	u := s.p.Units[unit]
	if u.Kind != api.UFunction {
		return
	}
	for _, v := range u.Vars {
		failIf(v.Class != api.VInput && v.Class != api.VLocal || !isOneCell(v), api.ErrPlace)
	}
	edges, _ := ladder.Edges(u.Body.Rungs)
	failIf(u.Body.Lang == api.InChart || len(edges) > 0, api.ErrPlace)
}

// isOneCell reports whether a variable is neither an array nor a block.
func isOneCell(v api.Var) bool {
	return v.Type.Kind != api.KBlock && v.Type.N == 0
}

// places checks the addresses of the variables of a unit.
func (s *survey) places(unit int) {
	u := s.p.Units[unit]
	for _, v := range u.Vars {
		if v.At == "" {
			continue
		}
		failIf(u.Kind != api.UProgram || !isOneCell(v) || !canBeAt(v.Class, v.At), api.ErrPlace)
		if v.Class == api.VOutput {
			failIf(s.addresses[v.At], api.ErrTwice)
			s.addresses[v.At] = true
		}
	}
}

// canBeAt reports whether variables of a class can have an address.
func canBeAt(class int, address string) bool {
	switch area := address[:2]; class {
	case api.VInput:
		return area == "%i" || area == "%m"
	case api.VOutput:
		return area == "%q" || area == "%m"
	}
	return false
}

// layout checks that a unit has cells.
func (s *survey) layout(unit int) {
	_, err := types.Layout(s.p, unit)
	failIf(err != api.OK, err)
}

// tasks checks that there are the programs of all tasks, each one in no other task.
func (s *survey) tasks() {
	there := map[string]bool{}
	taken := map[int]bool{}
	for i, t := range s.p.Tasks {
		s.at = len(s.p.Units) + i
		failIf(there[t.Name], api.ErrTwice)
		there[t.Name] = true
		for _, name := range t.Programs {
			unit, known := s.named[name]
			failIf(!known, api.ErrName)
			failIf(s.p.Units[unit].Kind != api.UProgram, api.ErrKind)
			failIf(taken[unit], api.ErrTwice)
			taken[unit] = true
		}
	}
}
