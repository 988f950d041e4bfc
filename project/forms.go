package project

import (
	"winch/api"
	"winch/chart"
	"winch/diagram"
	"winch/ladder"
	"winch/lexis"
	"winch/list"
	"winch/measure"
	"winch/print"
	"winch/syntax"
)

// Limits of tasks.
const (
	maxPrograms = 16
	maxEvery    = 100000
	maxPriority = 100
)

func isProject(p api.Project) bool {
	return areUpTo(api.MaxUnits, p.Units, isUnit) && areUpTo(api.MaxTasks, p.Tasks, isTask)
}

// areUpTo reports whether a list has at most so many members, each of which fits.
func areUpTo[T any](most int, l []T, fits func(T) bool) bool {
	if len(l) > most {
		return false
	}
	for _, x := range l {
		if !fits(x) {
			return false
		}
	}
	return true
}

func isUnit(u api.Unit) bool {
	switch u.Kind {
	case api.UProgram, api.UBlock:
		if u.Result != 0 {
			return false
		}
	case api.UFunction:
		if !isKind(u.Result) {
			return false
		}
	default:
		return false
	}
	return lexis.IsName(u.Name) && areUpTo(api.MaxVars, u.Vars, isVariable) && isBody(u.Body)
}

// isKind reports whether a kind is that of a value.
func isKind(kind int) bool {
	return kind == api.KBool || kind == api.KInt || kind == api.KTime
}

// isVariable reports whether a variable is well formed. Of a block no number is a value.
func isVariable(v api.Var) bool {
	isValue := func(n int) bool {
		_, err := print.Const(v.Type.Kind, n)
		return err == api.OK
	}
	return lexis.IsName(v.Name) && v.Class >= api.VInput && v.Class <= api.VRetain && isType(v.Type) &&
		areUpTo(max(v.Type.N, 1), v.Init, isValue) && (v.At == "" || lexis.IsAddress(v.At))
}

func isType(t api.Type) bool {
	if t.Kind == api.KBlock {
		return t.N == 0 && lexis.IsName(t.Block)
	}
	return isKind(t.Kind) && t.N >= 0 && t.N <= api.MaxArray && t.Block == ""
}

// isBody reports whether a body is well formed in its language, and has nothing of the other ones: what it has of its own is
// cleared in a copy, of which then nothing must be left.
func isBody(b api.Body) bool {
	rest := b
	rest.Lang = 0
	err := api.ErrArg
	switch b.Lang {
	case api.InText:
		err = syntax.Check(b.Text)
		rest.Text = nil
	case api.InList:
		err = list.Check(b.List)
		rest.List = nil
	case api.InLadder:
		err = ladder.Check(b.Rungs)
		rest.Rungs = nil
	case api.InDiagram:
		err = diagram.Check(b.Nodes)
		rest.Nodes = nil
	case api.InChart:
		err = chart.Check(b.Chart)
		rest.Chart = api.Chart{}
	}
	return err == api.OK && sameBody(rest, api.Body{})
}

func isTask(t api.Task) bool {
	return lexis.IsName(t.Name) && isFromTo(t.Every, 1, maxEvery) && isFromTo(t.Phase, 0, t.Every-1) && isFromTo(t.Priority, 0, maxPriority) &&
		len(t.Programs) > 0 && len(t.Programs) <= maxPrograms && measure.AreNames(t.Programs)
}

func isFromTo(n, from, to int) bool {
	return n >= from && n <= to
}
