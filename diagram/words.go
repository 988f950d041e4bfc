package diagram

import "winch/api"

// operators returns the operators of nodes by their words.
func operators() map[string]int {
	return map[string]int{
		"not": api.ENot,
		"and": api.EAnd,
		"or":  api.EOr,
		"xor": api.EXor,
		"add": api.EAdd,
		"sub": api.ESub,
		"mul": api.EMul,
		"div": api.EDiv,
		"mod": api.EMod,
		"gt":  api.EGt,
		"ge":  api.EGe,
		"eq":  api.EEq,
		"ne":  api.ENe,
		"le":  api.ELe,
		"lt":  api.ELt,
	}
}

// words returns the word of each operator.
func words() map[int]string {
	all := map[int]string{}
	for word, e := range operators() {
		all[e] = word
	}
	return all
}

// operands returns how many pins the node of an operator has.
func operands(e int) int {
	if e == api.ENot {
		return 1
	}
	return 2
}
