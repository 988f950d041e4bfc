package lower

import (
	"slices"

	"winch/api"
)

// group is statements that are executed one after the other. If it jumps, what follows it is the group to, if all conditions are
// true; otherwise the next one.
type group struct {
	body  []api.Stmt
	jumps bool
	when  []api.Expr
	to    int
}

// flow returns the statements that execute groups, from the first one on. A variable has the position of the group with which the
// execution goes on; those before it are passed over. For a jump back it has that of the group in a second round, in which the
// groups are counted on, so that all that are left of the first round are passed over, too.
func (w *work) flow(groups []group) []api.Stmt {
	var all []api.Stmt
	jumps := func(g group) bool { return g.jumps }
	if !slices.ContainsFunc(groups, jumps) {
		for _, g := range groups {
			all = joined(all, g.body)
		}
		return all
	}
	next := w.cell("next", api.KInt)
	isBack := false
	for i, g := range groups {
		body := g.body
		if g.jumps {
			to := g.to
			if to <= i {
				isBack = true
				to += len(groups)
			}
			body = joined(body, whenAll(g.when, set(next, number(to))))
		}
		if isPassedOver(groups, i) {
			body = of(when(binary(api.ELe, name(next), number(i)), body...))
		}
		all = joined(all, body)
	}
	begin := of(set(next, number(0)))
	if !isBack {
		return joined(begin, all)
	}
	count := number(len(groups))
	round := joined(of(set(next, binary(api.EMod, name(next), count))), all)
	isLast := binary(api.ELt, name(next), count)
	return append(begin, api.Stmt{Op: api.SRepeat, Args: of(isLast), Body: round})
}

// isPassedOver reports whether some jump passes over the group at a position. A jump back passes over all groups but those between
// the one to which it leads, and its own.
func isPassedOver(groups []group, at int) bool {
	for i, g := range groups {
		isBetween := at > i && at < g.to
		if g.to <= i {
			isBetween = at > i || at < g.to
		}
		if g.jumps && isBetween {
			return true
		}
	}
	return false
}
