package direct

import (
	"slices"

	"winch/api"
	"winch/check"
	"winch/parts"
	"winch/ranges"
	"winch/types"
)

// engine executes units of a sound project at a time, and counts their steps.
type engine struct {
	p api.Project
	// units has the position of each unit by its name.
	units map[string]int
	// plans has what is known so far of the units and standard blocks with some names.
	plans map[string]*plan
	now   int
	step  func()
}

// engineOf returns an engine of a project; with an error if it is not sound.
func engineOf(p api.Project) (*engine, api.Errno) {
	if _, err := check.Check(p); err != api.OK {
		return nil, err
	}
	name := func(u api.Unit) string { return u.Name }
	return &engine{p: p, units: positions(p.Units, name), plans: map[string]*plan{}, step: counter()}, api.OK
}

// scannerOf returns an engine of a project that can execute scans of a unit with some cells.
func scannerOf(p api.Project, unit int, cells []int) (*engine, api.Errno) {
	en, err := engineOf(p)
	switch {
	case err != api.OK:
		return nil, err
	case !en.has(unit) || p.Units[unit].Kind == api.UFunction || !types.IsCells(p, unit, cells):
		return nil, api.ErrArg
	}
	return en, api.OK
}

// has reports whether a number is the position of a unit.
func (en *engine) has(unit int) bool {
	return unit >= 0 && unit < len(en.p.Units)
}

// inputs returns the positions of the cells of all variables that are inputs of a unit.
func (en *engine) inputs(unit int) []int {
	cells, _ := types.Layout(en.p, unit)
	var l []int
	for i, c := range cells {
		if c.Class == api.VInput {
			l = append(l, i)
		}
	}
	return l
}

// takes reports whether scans of a unit can have these values of its inputs.
func (en *engine) takes(unit int, inputs [][]int) bool {
	cells, _ := types.Layout(en.p, unit)
	var kinds []int
	for _, at := range en.inputs(unit) {
		kinds = append(kinds, cells[at].Kind)
	}
	isWrong := func(l []int) bool { return !ranges.AreValues(kinds, l) }
	return !slices.ContainsFunc(inputs, isWrong)
}

// fault is what an execution panics with: the fault that ends it.
type fault int

// counter returns a function that counts a step whenever it is called, up to the one that is too many.
func counter() func() {
	steps := 0
	return func() {
		steps++
		if steps > api.MaxFuel {
			panic(fault(api.FFuel))
		}
	}
}

// run executes something at a time, as what a scan does, and returns the fault with which it ends.
func (en *engine) run(now int, execute func()) (found int, err api.Errno) {
	en.now = now
	en.step = counter()
	// What ends with anything else than a fault has not been executed.
	err = api.ErrArg
	defer func() {
		if f, is := recover().(fault); is {
			found, err = int(f), api.OK
		}
	}()
	execute()
	return api.FNone, api.OK
}

// scan returns the cells of a program or a block after a scan, or as they were and the fault.
func (en *engine) scan(pl *plan, cells []int, now int) ([]int, int, api.Errno) {
	after := slices.Clone(cells)
	found, err := en.run(now, func() { en.execute(pl, after) })
	switch {
	case err != api.OK:
		return nil, api.FNone, err
	case found != api.FNone:
		return slices.Clone(cells), found, api.OK
	}
	return after, api.FNone, api.OK
}

// result returns a value that is computed, or its fault.
func (en *engine) result(compute func() int) (int, int, api.Errno) {
	n := 0
	found, err := en.run(0, func() { n = compute() })
	return n, found, err
}

// execute executes a program or a block with its cells.
func (en *engine) execute(pl *plan, cells []int) {
	if !pl.isStandard {
		en.frame(pl, cells).body()
		return
	}
	after, _ := parts.Scan(pl.name, cells, en.now)
	copy(cells, after)
}

// function executes a function, and returns its result.
func (en *engine) function(unit int, args []int) int {
	en.step()
	pl := en.plan(unit)
	cells := slices.Clone(pl.first)
	for i, at := range pl.args {
		cells[at] = args[i]
	}
	en.frame(pl, cells).body()
	return cells[pl.places[pl.name].at]
}

// frame is a unit that is executed with its cells.
type frame struct {
	*engine
	*plan
	cells []int
	// powers has what comes to the coils of each rung of a ladder; notExecuted, if the rung has not been executed.
	powers []int
}

func (en *engine) frame(pl *plan, cells []int) *frame {
	return &frame{engine: en, plan: pl, cells: cells}
}

// body executes the body of a unit.
func (f *frame) body() {
	languages := map[int]func(){
		api.InText:    f.text,
		api.InList:    f.list,
		api.InLadder:  f.ladder,
		api.InDiagram: f.diagram,
		api.InChart:   f.chart,
	}
	languages[f.unit.Body.Lang]()
}
