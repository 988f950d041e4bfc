package list

import (
	"iter"

	"winch/api"
	"winch/measure"
)

// areLines reports whether each line is one that the grammar has, and whether there are not too many nodes.
func areLines(l []api.Line) bool {
	words := words()
	var m measure.Meter
	line := func(x api.Line, depth int) bool {
		return m.Enter(depth) && words[headOf(x)] != "" && isLine(x) && m.Expressions(x.Arg, depth+1)
	}
	return measure.All(l, 0, line)
}

// isLine reports whether a line has what the grammar has after its word, whatever its expressions are.
func isLine(x api.Line) bool {
	args, named := 0, false
	switch x.Op {
	case api.LLoad:
		args = 1
	case api.LOp:
		if !x.Open {
			args = 1
		}
	case api.LStore, api.LSet, api.LReset, api.LJump:
		named = true
	case api.LCall:
		args, named = len(x.Fields), true
	}
	return measure.IsNameIf(x.Label != "", x.Label) && measure.IsNameIf(named, x.Name) && len(x.Arg) == args &&
		(x.Op == api.LOp || !x.Open) && (x.Op == api.LCall || len(x.Fields) == 0) && measure.AreNames(x.Fields)
}

// areClosed reports whether parentheses are closed, and nothing stands in them that must not.
func areClosed(l []api.Line) bool {
	open := 0
	for i, x := range l {
		if open > 0 && (x.Label != "" || leaves(x)) {
			return false
		}
		if i > 0 && l[i-1].Open && x.Op != api.LLoad {
			return false
		}
		if x.Open {
			open++
		}
		if x.Op == api.LClose {
			open--
		}
		if open < 0 || open > api.MaxDepth {
			return false
		}
	}
	return open == 0
}

// leaves reports whether a line is a jump or a return.
func leaves(x api.Line) bool {
	return x.Op == api.LJump || x.Op == api.LRet
}

// haveLabels reports whether all labels are different, and every jump has its label.
func haveLabels(l []api.Line) bool {
	wanted := map[string]bool{}
	for _, x := range l {
		if x.Op == api.LJump {
			wanted[x.Name] = true
		}
	}
	there := map[string]bool{}
	for label := range labels(l) {
		if there[label] {
			return false
		}
		there[label] = true
		delete(wanted, label)
	}
	return len(wanted) == 0
}

// labels visits the labels of a list, with the positions of their lines.
func labels(l []api.Line) iter.Seq2[string, int] {
	return func(yield func(string, int) bool) {
		for i, x := range l {
			if x.Label != "" && !yield(x.Label, i) {
				return
			}
		}
	}
}
