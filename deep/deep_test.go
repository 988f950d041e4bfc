package deep_test

import (
	"reflect"
	"strings"
	"testing"

	"winch/api"
	"winch/deep"
	"winch/project"
)

func some() []api.Expr {
	a := api.Expr{Op: api.EName, S: "a"}
	f := api.Expr{Op: api.EField, S: "a", Field: "q"}
	return []api.Expr{a, {Op: api.EConst, Kind: api.KTime, N: 5}, {Op: api.EAdd, Args: []api.Expr{{Op: api.ECall, S: "g", Args: []api.Expr{a, f}}, a}}}
}

func TestCopies(t *testing.T) {
	l := some()
	all, one := deep.Exprs(l), deep.Expr(l[2])
	if !reflect.DeepEqual(all, some()) || !reflect.DeepEqual(one, some()[2]) || !reflect.DeepEqual(l, some()) {
		t.Errorf("copies of %v: %v, %v", l, all, one)
	}
	clear(l[2].Args[0].Args)
	clear(l[2].Args)
	clear(l)
	if !reflect.DeepEqual(all, some()) || !reflect.DeepEqual(one, some()[2]) {
		t.Errorf("copies have been changed: %v, %v", all, one)
	}
	if deep.Exprs(nil) != nil || deep.Exprs([]api.Expr{}) != nil {
		t.Error("copies of nothing")
	}
	if got := deep.List([]int{1, 2}, func(n int) int { return n + 1 }); !reflect.DeepEqual(got, []int{2, 3}) {
		t.Errorf("List: %v", got)
	}
}

// bodies have the variable v wherever there can be one, and v, too, wherever there is something else; of that, what must remain is
// written V.
var bodies = map[string]string{
	"statements": "st v := v + V(v, v.V, v[v], -v); v[v] := t#5; v(V := v, w := 1); if v then v := 1; elsif v then v := 2; else v := 3; end_if;" +
		" case v of 1, -2: v := 1; else v := 2; end_case; for v := v to v do v := v; end_for; while v do exit; end_while; repeat return; until v end_repeat;",
	"list":    "il V: ld v; ldn V(v); st v; stn v; set v; reset v; not; and v; orn ( ; ld v.V; ) ; jmp V; jmpc V; cal v; calcn v(V := v, w := v); gt v[v]; ret;",
	"ladder":  "ld rung: v & /v & (+v | -v | [v = V(v)] | true) -> v, /v, set v, reset v, jump V; rung: box v(V, V := v, w := v[v]).V -> +v, -v; rung V: v -> return;",
	"diagram": "fbd 1: and(v, /:2); 2: not(/V(v)); 3: v(V := :1, w := v.V).V; v := :3; 4: f().V; w := v[v];",
	"chart":   "sfc initial step V do while v do enter (v := V(v);) do limit_ t#5 v; step w macro V; from V, w to V when v or v.V; macro V (V, V) step V do set v; step x macro V; from V to x when v; macro V (V, V) step V do leave (v(V := v);); end; end;",
}

// body returns one of bodies, in which each v and V has been replaced.
func body(t *testing.T, what, v, other string) api.Body {
	t.Helper()
	source := strings.NewReplacer("leave", "leave", "v", v, "V", other).Replace(bodies[what])
	p, at, err := project.Read("program p " + source + " end")
	if err != api.OK {
		t.Fatalf("%q: %d, %d", source, at, err)
	}
	return p.Units[0].Body
}

func TestBodies(t *testing.T) {
	for what := range bodies {
		b := body(t, what, "v", "v")
		same, other, none := deep.Body(b), deep.Renamed(b, "v", "z"), deep.Renamed(b, "u", "z")
		if want := body(t, what, "v", "v"); !reflect.DeepEqual(same, want) || !reflect.DeepEqual(b, want) || !reflect.DeepEqual(none, want) {
			t.Errorf("copies of %s: %v, %v", what, same, none)
		}
		if want := body(t, what, "z", "v"); !reflect.DeepEqual(other, want) {
			t.Errorf("%s with another name: %v; want %v", what, other, want)
		}
		for _, x := range []api.Body{same, other, none} {
			if shared(reflect.ValueOf(b), reflect.ValueOf(x)) {
				t.Errorf("%s and its copy share memory", what)
			}
		}
		if c := deep.Chart(b.Chart); !reflect.DeepEqual(c, b.Chart) || shared(reflect.ValueOf(b), reflect.ValueOf(c)) {
			t.Errorf("the chart of %s: %v", what, c)
		}
	}
}

// shared reports whether two values have elements of slices in common.
func shared(a, b reflect.Value) bool {
	places := map[uintptr]bool{}
	elements(a, func(at uintptr) { places[at] = true })
	is := false
	elements(b, func(at uintptr) { is = is || places[at] })
	return is
}

// elements visits the places of all elements of slices in a value.
func elements(v reflect.Value, visit func(uintptr)) {
	switch v.Kind() {
	case reflect.Struct:
		for i := range v.NumField() {
			elements(v.Field(i), visit)
		}
	case reflect.Slice:
		for i := range v.Len() {
			visit(v.Index(i).Addr().Pointer())
			elements(v.Index(i), visit)
		}
	}
}
