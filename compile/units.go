package compile

import (
	"winch/api"
	"winch/standard"
	"winch/types"
)

// compiler is what is known of a sound project, whatever unit is compiled.
type compiler struct {
	p api.Project
	// units has the position of each unit in the project by its name, positions the one that it has in the code.
	units     map[string]int
	positions []int
	// functions and blocks have the numbers of the standard ones.
	functions, blocks map[string]int
	// fields has for each block that has been asked for where in its cells its variables are.
	fields map[string]map[string]int
}

// newCompiler returns what is known of a project whose units come into the code in some order.
func newCompiler(p api.Project, order []int) *compiler {
	co := &compiler{p: p, units: map[string]int{}, positions: make([]int, len(order)), functions: map[string]int{}, blocks: map[string]int{}, fields: map[string]map[string]int{}}
	for at, unit := range order {
		co.positions[unit] = at
		co.units[p.Units[unit].Name] = unit
	}
	for i, f := range standard.Functions() {
		co.functions[f.Name] = i
	}
	for i, b := range standard.Blocks() {
		co.blocks[b.Name] = i
	}
	return co
}

// field returns where in the cells of a block one of its variables is.
func (co *compiler) field(block, name string) int {
	places, known := co.fields[block]
	if !known {
		places = co.placesOf(block)
		co.fields[block] = places
	}
	return places[name]
}

// placesOf returns where in the cells of a block its variables are.
func (co *compiler) placesOf(block string) map[string]int {
	places := map[string]int{}
	if variables, is := types.Standard(block); is {
		for i, v := range variables {
			places[v.Name] = i
		}
		return places
	}
	unit := co.units[block]
	starts, _, _, _ := types.Frame(co.p, unit)
	for i, v := range co.p.Units[unit].Vars {
		places[v.Name] = starts[i]
	}
	return places
}

// unit is a unit that is compiled.
type unit struct {
	*compiler
	writer
	source    api.Unit
	variables map[string]variable
	// hidden is where the hidden cells are.
	hidden int
	// exits are the jumps out of the innermost loop, leaving those that end the unit from each depth of the stack.
	exits   []func()
	leaving map[int][]func()
}

// variable is where the cells of a variable begin, and its type.
type variable struct {
	at int
	t  api.Type
}

// unit returns the code of a unit.
func (co *compiler) unit(at int) api.UnitCode {
	u := &unit{compiler: co, source: co.p.Units[at], variables: map[string]variable{}, leaving: map[int][]func(){}}
	c := api.UnitCode{Name: u.source.Name, Kind: u.source.Kind}
	if u.source.Kind == api.UFunction {
		c.Cells, c.Args = u.functionCells()
	} else {
		c.Cells = u.cells(at)
	}
	languages := map[int]func(){
		api.InText:    u.text,
		api.InList:    u.list,
		api.InLadder:  u.ladder,
		api.InDiagram: u.diagram,
		api.InChart:   u.chart,
	}
	languages[u.source.Body.Lang]()
	u.finish()
	c.Code = u.code
	return c
}

// cells finds the cells of the variables of a program or a block, and returns how many cells it has.
func (u *unit) cells(at int) int {
	starts, hidden, count, _ := types.Frame(u.p, at)
	for i, v := range u.source.Vars {
		u.variables[v.Name] = variable{starts[i], v.Type}
	}
	u.hidden = hidden
	return count
}

// functionCells finds the cells of the variables of a function, and sets those to their values at first that are not 0: the result
// comes first, then the inputs, and then the others. It returns the numbers of all cells, and of the inputs.
func (u *unit) functionCells() (cells, args int) {
	u.variables[u.source.Name] = variable{0, api.Type{Kind: u.source.Result}}
	cells = 1
	for _, v := range u.source.Vars {
		if v.Class == api.VInput {
			u.variables[v.Name] = variable{cells, v.Type}
			cells++
		}
	}
	args = cells - 1
	for _, v := range u.source.Vars {
		if v.Class == api.VInput {
			continue
		}
		u.variables[v.Name] = variable{cells, v.Type}
		if len(v.Init) > 0 && v.Init[0] != 0 {
			u.constant(v.Init[0])
			u.keep(cell(cells))
		}
		cells++
	}
	return cells, args
}

// leave ends the unit. From some depth of the stack what is on it must be dropped first, which is written at the end.
func (u *unit) leave() {
	if u.depth == 0 {
		u.add(api.IReturn, 0, 0, 0)
		return
	}
	depth := u.depth
	u.leaving[depth] = append(u.leaving[depth], u.jump(api.IJump))
}

// finish ends the code of the unit.
func (u *unit) finish() {
	u.leave()
	deepest := 0
	for depth := range u.leaving {
		deepest = max(deepest, depth)
	}
	for depth := deepest; depth > 0; depth-- {
		landAll(u.leaving[depth])
		u.drop(1)
	}
	if deepest > 0 {
		u.leave()
	}
}
