// Package kinds says which kinds of operands the operators of expressions want, and which kind their results have: it is what
// layers 10 and 11 have in common.
package kinds

import (
	"slices"

	"winch/api"
)

// Result returns the kind of the result of an operator, whose operands have some kinds (there is at least one); false if it does
// not want them, or if there is no such operator.
func Result(op int, operands ...int) (int, bool) {
	var wanted []int
	result := api.KBool
	switch {
	case isOneOf(op, api.ENot, api.EOr, api.EXor, api.EAnd):
		wanted = []int{api.KBool}
	case isOneOf(op, api.ENeg, api.EMul, api.EDiv, api.EMod):
		wanted, result = []int{api.KInt}, api.KInt
	case isOneOf(op, api.EAdd, api.ESub):
		wanted, result = []int{api.KInt, api.KTime}, operands[0]
	case isOneOf(op, api.EEq, api.ENe):
		wanted = []int{api.KBool, api.KInt, api.KTime}
	case isOneOf(op, api.ELt, api.ELe, api.EGt, api.EGe):
		wanted = []int{api.KInt, api.KTime}
	}
	for _, kind := range operands {
		if kind != operands[0] || !isOneOf(kind, wanted...) {
			return 0, false
		}
	}
	return result, true
}

func isOneOf[T comparable](x T, l ...T) bool {
	return slices.Contains(l, x)
}
