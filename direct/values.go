package direct

import (
	"winch/api"
	"winch/eval"
)

// value returns the value of an expression.
func (f *frame) value(e api.Expr) int {
	switch e.Op {
	case api.EConst:
		return e.N
	case api.EName:
		return f.cells[f.places[e.S].at]
	case api.EIndex:
		return f.cells[f.element(e.S, f.value(e.Args[0]))]
	case api.EField:
		return f.output(e.S, e.Field)
	}
	args := f.values(e.Args)
	switch {
	case e.Op == api.ECall:
		return f.called(e.S, args)
	case len(args) == 1:
		n, _ := eval.Unary(e.Op, args[0])
		return n
	}
	return combined(e.Op, args[0], args[1])
}

// values returns the values of expressions, from left to right.
func (f *frame) values(l []api.Expr) []int {
	var values []int
	for _, e := range l {
		values = append(values, f.value(e))
	}
	return values
}

// element returns the position of the cell of an element of an array.
func (f *frame) element(name string, index int) int {
	x := f.places[name]
	if index < 0 || index >= x.t.N {
		panic(fault(api.FIndex))
	}
	return x.at + index
}

// output returns the value of an output of a block variable.
func (f *frame) output(name, output string) int {
	x := f.places[name]
	return f.cells[x.at+f.planOf(x.t.Block).places[output].at]
}

// called returns the result of a function, which is a unit or a standard one.
func (f *frame) called(name string, args []int) int {
	if unit, is := f.units[name]; is {
		return f.function(unit, args)
	}
	n, _ := eval.Call(name, args)
	return n
}

// combined returns the result of an operator of two operands.
func combined(op, v, w int) int {
	n, found, _ := eval.Binary(op, v, w)
	if found != api.FNone {
		panic(fault(found))
	}
	return n
}

// negatedIf returns 1 minus a value, if it is to be negated.
func negatedIf(is bool, v int) int {
	if is {
		return 1 - v
	}
	return v
}

// set sets a variable of one cell.
func (f *frame) set(name string, v int) {
	f.cells[f.places[name].at] = v
}

// call computes values for some inputs of a block variable, sets them, and executes the block.
func (f *frame) call(name string, inputs []string, value func(at int) int) {
	var values []int
	for i := range inputs {
		values = append(values, value(i))
	}
	x := f.places[name]
	block := f.planOf(x.t.Block)
	cells := f.cells[x.at : x.at+block.size]
	for i, input := range inputs {
		cells[block.places[input].at] = values[i]
	}
	f.step()
	f.execute(block, cells)
}
