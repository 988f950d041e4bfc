package deep_test

import (
	"reflect"
	"testing"

	"winch/api"
	"winch/deep"
)

func some() []api.Expr {
	a := api.Expr{Op: api.EName, S: "a"}
	f := api.Expr{Op: api.EField, S: "a", Field: "q"}
	return []api.Expr{a, {Op: api.EConst, Kind: api.KTime, N: 5}, {Op: api.EAdd, Args: []api.Expr{{Op: api.ECall, S: "g", Args: []api.Expr{a, f}}, a}}}
}

func TestCopies(t *testing.T) {
	l := some()
	all, one := deep.Exprs(l), deep.Expr(l[2])
	if !reflect.DeepEqual(all, some()) || !reflect.DeepEqual(one, some()[2]) || !reflect.DeepEqual(l, some()) {
		t.Errorf("copies of %v: %v, %v", l, all, one)
	}
	clear(l[2].Args[0].Args)
	clear(l[2].Args)
	clear(l)
	if !reflect.DeepEqual(all, some()) || !reflect.DeepEqual(one, some()[2]) {
		t.Errorf("copies have been changed: %v, %v", all, one)
	}
	if deep.Exprs(nil) != nil || deep.Exprs([]api.Expr{}) != nil {
		t.Error("copies of nothing")
	}
	if got := deep.List([]int{1, 2}, func(n int) int { return n + 1 }); !reflect.DeepEqual(got, []int{2, 3}) {
		t.Errorf("List: %v", got)
	}
}
