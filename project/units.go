package project

import (
	"iter"
	"slices"

	"winch/api"
	"winch/deep"
)

// clone returns a copy of a project that shares no memory with it.
func clone(p api.Project) api.Project {
	return api.Project{Units: deep.List(p.Units, cloneUnit), Tasks: deep.List(p.Tasks, cloneTask)}
}

func cloneUnit(u api.Unit) api.Unit {
	u.Vars = deep.List(u.Vars, cloneVariable)
	u.Body = deep.Body(u.Body)
	return u
}

func cloneVariable(v api.Var) api.Var {
	v.Init = slices.Clone(v.Init)
	return v
}

func cloneTask(t api.Task) api.Task {
	t.Programs = slices.Clone(t.Programs)
	return t
}

// unitsCalled visits the positions of the units of a project that have a name.
func unitsCalled(p api.Project, name string) iter.Seq[int] {
	return positions(p.Units, func(u api.Unit) bool { return u.Name == name })
}

// variablesCalled visits the positions of the variables of a unit that have a name.
func variablesCalled(u api.Unit, name string) iter.Seq[int] {
	return positions(u.Vars, func(v api.Var) bool { return v.Name == name })
}

// positions visits the positions of the members of a list that are wanted.
func positions[T any](l []T, isWanted func(T) bool) iter.Seq[int] {
	return func(yield func(int) bool) {
		for i, x := range l {
			if isWanted(x) && !yield(i) {
				return
			}
		}
	}
}

// first returns the first of positions.
func first(positions iter.Seq[int]) (int, api.Errno) {
	for i := range positions {
		return i, api.OK
	}
	return 0, api.ErrNone
}

// groups visits the groups of variables that follow each other and have one class.
func groups(l []api.Var) iter.Seq[[]api.Var] {
	return func(yield func([]api.Var) bool) {
		for len(l) > 0 {
			n := 1
			for n < len(l) && l[n].Class == l[0].Class {
				n++
			}
			if !yield(l[:n]) {
				return
			}
			l = l[n:]
		}
	}
}
