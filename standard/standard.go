// Package standard has the standard functions and blocks in the order of the numbers that they have in codes.
package standard

import (
	"winch/eval"
	"winch/parts"
	"winch/types"
)

// Function is a standard function: the kinds of its inputs.
type Function struct {
	Name   string
	Inputs []int
}

// Functions returns the standard functions.
func Functions() []Function {
	var l []Function
	for _, name := range []string{"abs", "limit", "max", "min", "sel", "tobool", "toint", "totime"} {
		inputs, _, _ := eval.Kinds(name)
		l = append(l, Function{name, inputs})
	}
	return l
}

// Block is a standard block: the kinds of its cells.
type Block struct {
	Name  string
	Cells []int
}

// Blocks returns the standard blocks.
func Blocks() []Block {
	var l []Block
	for _, name := range parts.Names() {
		b := Block{Name: name}
		variables, _ := types.Standard(name)
		for _, v := range variables {
			b.Cells = append(b.Cells, v.Type.Kind)
		}
		l = append(l, b)
	}
	return l
}
