package compile

import "winch/api"

// place is where a value goes from the top of the stack.
type place interface{ isPlace() }

// cell is a cell of the unit, element an element of an array, slot a place on the stack, counted from its bottom.
type (
	cell    int
	element struct {
		variable
		index api.Expr
	}
	slot int
)

func (cell) isPlace()    {}
func (element) isPlace() {}
func (slot) isPlace()    {}

// keep takes the value from the top of the stack to a place.
func (u *unit) keep(p place) {
	switch p := p.(type) {
	case cell:
		u.add(api.IStore, int(p), 0, -1)
	case element:
		u.value(p.index)
		u.add(api.IStoreX, p.at, p.t.N, -2)
	case slot:
		u.put(u.depth - 2 - int(p))
	}
}

// named returns the place of a variable that is one cell.
func (u *unit) named(name string) place {
	return cell(u.variables[name].at)
}

// value pushes the value of an expression.
func (u *unit) value(e api.Expr) {
	switch e.Op {
	case api.EConst:
		u.constant(e.N)
		return
	case api.EName:
		u.load(u.variables[e.S].at)
		return
	case api.EField:
		u.output(e.S, e.Field)
		return
	}
	u.values(e.Args)
	switch {
	case e.Op == api.EIndex:
		array := u.variables[e.S]
		u.add(api.ILoadX, array.at, array.t.N, 0)
	case e.Op == api.ECall:
		u.function(e.S, len(e.Args))
	case len(e.Args) == 1:
		u.unary(e.Op)
	default:
		u.binary(e.Op)
	}
}

// values pushes the values of expressions, from left to right.
func (u *unit) values(l []api.Expr) {
	for _, e := range l {
		u.value(e)
	}
}

// output pushes the value of an output of a block variable.
func (u *unit) output(name, output string) {
	block := u.variables[name]
	u.load(block.at + u.field(block.t.Block, output))
}

// function executes a function, which is a unit or a standard one, for the arguments that are on the stack.
func (u *unit) function(name string, args int) {
	if unit, is := u.units[name]; is {
		u.add(api.ICall, u.positions[unit], 0, 1-args)
		return
	}
	u.add(api.IStd, u.functions[name], 0, 1-args)
}

// call sets some inputs of a block variable to values that are pushed one by one, and executes the block. (As no expression reads an
// input of a block variable, each one can be set at once.)
func (u *unit) call(name string, inputs []string, push func(at int)) {
	block := u.variables[name]
	for i, input := range inputs {
		push(i)
		u.keep(cell(block.at + u.field(block.t.Block, input)))
	}
	if unit, is := u.units[block.t.Block]; is {
		u.add(api.IUnit, u.positions[unit], block.at, 0)
		return
	}
	u.add(api.IPart, u.blocks[block.t.Block], block.at, 0)
}
