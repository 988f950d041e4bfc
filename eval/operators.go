package eval

import (
	"cmp"
	"slices"

	"winch/api"
)

// binary is an operator of two operands: it returns its result, which is still to be wrapped, and its fault.
type binary func(v, w int) (int, int)

// unaries returns the operators of one operand.
func unaries() map[int]func(v int) int {
	return map[int]func(v int) int{
		api.ENot: func(v int) int { return 1 - v },
		api.ENeg: func(v int) int { return -v },
	}
}

// binaryOf returns an operator of two operands; nil if there is none. (The operators are in several maps, as making one of all of
// them takes much longer.)
func binaryOf(op int) binary {
	switch {
	case op <= api.EAnd:
		return logical()[op]
	case op <= api.EGe:
		return comparing()[op]
	}
	return computing()[op]
}

func logical() map[int]binary {
	return map[int]binary{
		api.EOr:  func(v, w int) (int, int) { return v | w, api.FNone },
		api.EXor: func(v, w int) (int, int) { return v ^ w, api.FNone },
		api.EAnd: func(v, w int) (int, int) { return v & w, api.FNone },
	}
}

func comparing() map[int]binary {
	return map[int]binary{
		api.EEq: func(v, w int) (int, int) { return ordered(v, w, 0) },
		api.ENe: func(v, w int) (int, int) { return ordered(v, w, -1, 1) },
		api.ELt: func(v, w int) (int, int) { return ordered(v, w, -1) },
		api.ELe: func(v, w int) (int, int) { return ordered(v, w, -1, 0) },
		api.EGt: func(v, w int) (int, int) { return ordered(v, w, 1) },
		api.EGe: func(v, w int) (int, int) { return ordered(v, w, 0, 1) },
	}
}

func computing() map[int]binary {
	return map[int]binary{
		api.EAdd: func(v, w int) (int, int) { return v + w, api.FNone },
		api.ESub: func(v, w int) (int, int) { return v - w, api.FNone },
		api.EMul: func(v, w int) (int, int) { return v * w, api.FNone },
		api.EDiv: func(v, w int) (int, int) { return divided(w, func() int { return v / w }) },
		api.EMod: func(v, w int) (int, int) { return divided(w, func() int { return v % w }) },
	}
}

// ordered returns whether two operands are in one of the wanted orders: -1, 0 or 1, as cmp.Compare has it. It has no faults.
func ordered[T cmp.Ordered](v, w T, wanted ...int) (int, int) {
	return truth(slices.Contains(wanted, cmp.Compare(v, w))), api.FNone
}

// divided returns what a division by a number makes, if that is not 0.
func divided(by int, run func() int) (int, int) {
	if by == 0 {
		return 0, api.FZero
	}
	return run(), api.FNone
}

func truth(is bool) int {
	if is {
		return 1
	}
	return 0
}

// areOperands reports whether an operator can have these operands.
func areOperands(op int, operands ...int) bool {
	logical := op == api.ENot || op >= api.EOr && op <= api.EAnd
	for _, v := range operands {
		if !IsValue(v) || logical && !isTruth(v) {
			return false
		}
	}
	return true
}

func isTruth(v int) bool {
	return v == 0 || v == 1
}
