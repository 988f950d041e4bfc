package lower

import (
	"slices"
	"strconv"

	"winch/api"
	"winch/check"
	"winch/project"
)

// tooMuch is what a work panics with if what it makes would be too large.
type tooMuch struct{}

// remade returns a project in which units of a sound one have been made anew; ErrFull if they have become too large.
func remade(p api.Project, remake func(units []api.Unit)) (result api.Project, err api.Errno) {
	defer func() {
		if recover() != nil {
			result, err = api.Project{}, api.ErrFull
		}
	}()
	q := api.Project{Units: slices.Clone(p.Units), Tasks: p.Tasks}
	remake(q.Units)
	// What is made is sound but for its size.
	if _, err := check.Check(q); err != api.OK {
		panic(tooMuch{})
	}
	// Expressions have been used several times, and are still those of the other project.
	return project.Clone(q)
}

// work makes the body of a unit in another language: unit is what the unit becomes. Heads is the project without bodies, and without
// other programs, to which nothing in a unit refers; at is the position of the unit in it.
type work struct {
	unit  api.Unit
	heads api.Project
	at    int
	// fresh adds a variable of a type to the unit, with values that it has at first, and returns its name.
	fresh func(like string, t api.Type, first ...int) string
}

func workOn(p api.Project, at int) *work {
	w := &work{unit: p.Units[at]}
	for i, u := range p.Units {
		if i == at {
			w.at = len(w.heads.Units)
		} else if u.Kind == api.UProgram {
			continue
		}
		u.Body = api.Body{Lang: api.InText}
		w.heads.Units = append(w.heads.Units, u)
	}
	w.unit.Vars = nil
	taken := map[string]bool{w.unit.Name: true}
	for _, v := range p.Units[at].Vars {
		w.unit.Vars = append(w.unit.Vars, v)
		taken[v.Name] = true
	}
	w.fresh = func(like string, t api.Type, first ...int) string {
		if len(w.unit.Vars) == api.MaxVars {
			panic(tooMuch{})
		}
		name := like
		for i := 1; taken[name]; i++ {
			name = like + strconv.Itoa(i)
		}
		taken[name] = true
		w.unit.Vars = append(w.unit.Vars, api.Var{Name: name, Class: api.VLocal, Type: t, Init: first})
		return name
	}
	return w
}

// cell adds a variable of one cell to the unit, and returns its name.
func (w *work) cell(like string, kind int) string {
	return w.fresh(like, api.Type{Kind: kind})
}

// kind returns the kind of an expression that stands in the body.
func (w *work) kind(e api.Expr) int {
	kind, _ := check.Expr(w.heads, w.at, e)
	return kind
}

// lower makes the body structured text.
func (w *work) lower() {
	languages := map[int]func() []api.Stmt{
		api.InText:    w.text,
		api.InList:    w.list,
		api.InLadder:  w.ladder,
		api.InDiagram: w.diagram,
		api.InChart:   w.chart,
	}
	w.unit.Body = api.Body{Lang: api.InText, Text: languages[w.unit.Body.Lang]()}
}

// text returns the statements of structured text, which remain as they are.
func (w *work) text() []api.Stmt {
	return w.unit.Body.Text
}
