package list

import "winch/api"

// Blocks returns the positions of the lines of a well formed list in groups, each of which is executed from its first line on.
func Blocks(l []api.Line) ([][]int, api.Errno) {
	if Check(l) != api.OK {
		return nil, api.ErrArg
	}
	var groups [][]int
	begins := true
	for i, x := range l {
		if begins || x.Label != "" {
			groups = append(groups, nil)
		}
		last := len(groups) - 1
		groups[last] = append(groups[last], i)
		begins = leaves(x)
	}
	return groups, api.OK
}

// Reached returns the positions of the lines of a well formed list that can be reached, ascending.
func Reached(l []api.Line) ([]int, api.Errno) {
	if Check(l) != api.OK {
		return nil, api.ErrArg
	}
	var positions []int
	for i, is := range reach(l) {
		if is {
			positions = append(positions, i)
		}
	}
	return positions, api.OK
}

// reach returns for each line of a well formed list whether it can be reached. From each beginning it follows the lines up to
// one that has been reached before, or that has no next one.
func reach(l []api.Line) []bool {
	places := map[string]int{}
	for label, i := range labels(l) {
		places[label] = i
	}
	reached := make([]bool, len(l))
	beginnings := []int{0}
	for len(beginnings) > 0 {
		last := len(beginnings) - 1
		i := beginnings[last]
		beginnings = beginnings[:last]
	follow:
		for ; i < len(l) && !reached[i]; i++ {
			reached[i] = true
			switch x := l[i]; {
			case x.Op == api.LJump:
				beginnings = append(beginnings, places[x.Name])
				if x.Cond == 0 {
					break follow
				}
			case x.Op == api.LRet && x.Cond == 0:
				break follow
			}
		}
	}
	return reached
}
