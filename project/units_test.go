package project_test

import (
	"math"
	"reflect"
	"slices"
	"strings"
	"testing"

	"winch/api"
	"winch/project"
)

func TestClone(t *testing.T) {
	for _, source := range []string{"", someSource} {
		p := read(t, source)
		c, err := project.Clone(p)
		if err != api.OK || !reflect.DeepEqual(c, p) || !project.Same(c, p) {
			t.Errorf("Clone = %v, %d", c, err)
		}
		spoil(&p)
		if !reflect.DeepEqual(c, read(t, source)) {
			t.Errorf("changed with what it is a copy of: %v", c)
		}
	}
}

// spoil changes lists of all kinds in a project. (What bodies consist of is a matter of package deep.)
func spoil(p *api.Project) {
	for i, u := range p.Units {
		for j := range u.Vars {
			for k := range u.Vars[j].Init {
				u.Vars[j].Init[k]++
			}
			u.Vars[j] = api.Var{}
		}
		clear(u.Body.Text)
		clear(u.Body.List)
		clear(u.Body.Rungs)
		clear(u.Body.Nodes)
		clear(u.Body.Chart.Steps)
		clear(u.Body.Chart.Inner)
		p.Units[i] = api.Unit{}
	}
	for i, x := range p.Tasks {
		clear(x.Programs)
		p.Tasks[i] = api.Task{}
	}
}

const twoUnits = "program p input a bool; b int; output a int; local ton ton; st end block b st end function p : int local x int; st end block q local a bool; st end"

func TestFind(t *testing.T) {
	p := read(t, twoUnits)
	for name, want := range map[string]int{"p": 0, "b": 1, "q": 3, "a": -1, "": -1, "P": -1, "program": -1, "ton": -1, "abs": -1, strings.Repeat("p", 1<<20): -1} {
		at, err := project.Find(p, name)
		if want < 0 && (at != 0 || err != api.ErrNone) || want >= 0 && (at != want || err != api.OK) {
			t.Errorf("Find(%.20q) = %d, %d; want %d", name, at, err, want)
		}
	}
	if at, err := project.Find(api.Project{}, "p"); at != 0 || err != api.ErrNone {
		t.Errorf("Find of nothing: %d, %d", at, err)
	}
	if at, err := project.Find(api.Project{Units: of(api.Unit{Name: "p"})}, "p"); at != 0 || err != api.ErrArg {
		t.Errorf("Find in what is not well formed: %d, %d", at, err)
	}
}

func TestVariable(t *testing.T) {
	p := read(t, twoUnits)
	for _, x := range []struct {
		unit int
		name string
		want int
		err  api.Errno
	}{
		{0, "a", 0, api.OK}, {0, "b", 1, api.OK}, {0, "ton", 3, api.OK}, {0, "x", 0, api.ErrNone}, {0, "p", 0, api.ErrNone}, {0, "", 0, api.ErrNone}, {1, "a", 0, api.ErrNone}, {2, "x", 0, api.OK}, {2, "p", 0, api.ErrNone}, {3, "a", 0, api.OK}, {3, "ton", 0, api.ErrNone},
		{4, "a", 0, api.ErrArg}, {-1, "a", 0, api.ErrArg}, {math.MaxInt, "?", 0, api.ErrArg}, {math.MinInt, "a", 0, api.ErrArg},
	} {
		if at, err := project.Variable(p, x.unit, x.name); at != x.want || err != x.err {
			t.Errorf("Variable(%d, %q) = %d, %d; want %d, %d", x.unit, x.name, at, err, x.want, x.err)
		}
	}
	if at, err := project.Variable(api.Project{}, 0, "a"); at != 0 || err != api.ErrArg {
		t.Errorf("Variable of nothing: %d, %d", at, err)
	}
}

// sections declare the variable v, and what is not renamed with it; V stands for what is written like the variable, and is none.
const sections = "input v bool; vv V; local V1 v; output W v; retain x int[2] at %i1; "

// renamedBodies have v as a variable or block variable, and V as anything else.
var renamedBodies = []string{
	"st v := v + V(v, v.V, v[v], -v); v[v] := t#5; v(V := v, w := 1); if v then v := 1; elsif v then v := 2; else v := 3; end_if; case v of 1: v := vv; else v := 2; end_case; for v := v to v do v := v; end_for; while v do exit; end_while; repeat until v end_repeat;",
	"il V: ld v; ldn V(v); st v; stn v; set v; reset v; and v; or ( ; ld v.V; ) ; jmp V; jmpc V; cal v; calc v(V := v, w := vv); ret;",
	"ld rung: v & /v & (+v | -v | [v = V(v)] | true) -> v, /v, set v, reset v, jump V; rung: box v(V, V := v, w := v[v]).V -> +v, -v; rung V: vv -> return;",
	"fbd 1: and(v, /:2); 2: not(/V(v)); 3: v(V := :1, w := v.V).V; v := :3; 4: f().V; vv := v[v];",
	"sfc initial step V do while v do enter (v := V(v);) do limit_ t#5 v; step w macro V; from V, w to V when v or v.V; macro V (V, V) step V do set v; step x macro V; from V to x when v; macro V (V, V) step V do leave (v(V := v);); end; end;",
}

// unitsWith returns a project, the second of whose units has a body, in which v and V have been replaced. (The words with a v are
// left as they are.)
func unitsWith(t *testing.T, body, v, other string) api.Project {
	t.Helper()
	names := strings.NewReplacer("leave", "leave", "every", "every", "vv", "vv", "v", v, "V1", "v1", "V", other, "W", "w1")
	return read(t, names.Replace("block V input V int; st V := V; end program V "+sections+body+" end task V every t#5 priority 0 run V;"))
}

func TestRename(t *testing.T) {
	for _, body := range renamedBodies {
		p := unitsWith(t, body, "v", "v")
		want := unitsWith(t, body, "z", "v")
		// A variable can have the type of its own name, which is not renamed.
		want.Units[1].Vars[2].Type, want.Units[1].Vars[3].Type = block("v"), block("v")
		got, err := project.Rename(p, 1, "v", "z")
		if err != api.OK || !reflect.DeepEqual(got, want) || !reflect.DeepEqual(p, unitsWith(t, body, "v", "v")) {
			t.Errorf("Rename in %q: %v, %d; want %v", body, got, err, want)
		}
		back, err := project.Rename(got, 1, "z", "v")
		if err != api.OK || !project.Same(back, p) {
			t.Errorf("Rename back in %q: %v, %d", body, back, err)
		}
		spoil(&p)
		if !reflect.DeepEqual(got, want) {
			t.Errorf("changed with the project: %v", got)
		}
		other, err := project.Rename(want, 1, "x", "twelve_bytes")
		want.Units[1].Vars[4].Name = "twelve_bytes"
		if err != api.OK || !slices.EqualFunc(other.Units[1].Vars, want.Units[1].Vars, func(a, b api.Var) bool { return reflect.DeepEqual(a, b) }) {
			t.Errorf("Rename x in %q: %v, %d", body, other, err)
		}
	}
	// Names of functions and units remain, and so do the variables of other units; a name that is there twice is renamed twice.
	p := read(t, "function f : int input a int; a bool; f bool; st f := f(a); end block b input a int; f int; st a := f; end")
	got, err := project.Rename(p, 0, "a", "b")
	if want := read(t, "function f : int input b int; b bool; f bool; st f := f(b); end block b input a int; f int; st a := f; end"); err != api.OK || !project.Same(got, want) {
		t.Errorf("Rename of a: %v, %d", got, err)
	}
	got, err = project.Rename(p, 0, "f", "g")
	if want := read(t, "function f : int input a int; a bool; g bool; st g := f(a); end block b input a int; f int; st a := f; end"); err != api.OK || !project.Same(got, want) {
		t.Errorf("Rename of f: %v, %d", got, err)
	}
}

func TestRenameErrors(t *testing.T) {
	p := read(t, twoUnits)
	for _, x := range []struct {
		unit     int
		from, to string
		want     api.Errno
	}{
		{4, "a", "z", api.ErrArg}, {-1, "a", "z", api.ErrArg}, {4, "?", "?", api.ErrArg}, {math.MinInt, "a", "b", api.ErrArg}, {0, "z", "y", api.ErrNone}, {0, "z", "?", api.ErrNone}, {0, "z", "a", api.ErrNone}, {0, "", "z", api.ErrNone}, {0, "p", "z", api.ErrNone}, {1, "a", "z", api.ErrNone},
		{0, "a", "", api.ErrArg}, {0, "a", "if", api.ErrArg}, {0, "a", "A", api.ErrArg}, {0, "a", "thirteen_byte", api.ErrArg}, {0, "a", "a b", api.ErrArg}, {0, "a", "1", api.ErrArg}, {0, "a", "%i1", api.ErrArg}, {0, "a", "b", api.ErrTwice}, {0, "a", "a", api.ErrTwice}, {0, "b", "ton", api.ErrTwice}, {3, "a", "a", api.ErrTwice},
		{0, "a", "p", api.OK}, {0, "a", "q", api.OK}, {0, "a", "x", api.OK}, {3, "a", "b", api.OK}, {2, "x", "p", api.OK}, {0, "ton", "tof", api.OK}, {0, "a", "abs", api.OK},
	} {
		got, err := project.Rename(p, x.unit, x.from, x.to)
		if err != x.want || err != api.OK && !reflect.DeepEqual(got, api.Project{}) {
			t.Errorf("Rename(%d, %q, %q) = %v, %d; want %d", x.unit, x.from, x.to, got, err, x.want)
		}
	}
	if got, err := project.Rename(api.Project{Units: of(api.Unit{})}, 0, "?", "?"); err != api.ErrArg || !reflect.DeepEqual(got, api.Project{}) {
		t.Errorf("Rename in what is not well formed: %v, %d", got, err)
	}
}
