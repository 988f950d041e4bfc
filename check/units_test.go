package check_test

import (
	"math"
	"slices"
	"strings"
	"testing"

	"winch/api"
	"winch/check"
)

// whole is the source of a project, with the position that Check returns, and the error.
type whole struct {
	source string
	at     int
	want   api.Errno
}

// expectAll checks what all functions say of projects.
func expectAll(t *testing.T, l []whole) {
	t.Helper()
	for _, x := range l {
		p := read(t, x.source)
		if at, err := check.Check(p); at != x.at || err != x.want {
			t.Errorf("%.300s: Check %d, %d; want %d, %d", x.source, at, err, x.at, x.want)
		}
		if x.want != api.OK {
			expectUnsound(t, x.source, p, x.want)
		}
	}
}

// expectUnsound checks what the functions say that want a sound project.
func expectUnsound(t *testing.T, what string, p api.Project, want api.Errno) {
	t.Helper()
	calls, e1 := check.Calls(p, 0)
	order, e2 := check.Order(p)
	sets, e3 := check.Sets(p, 0)
	reads, e4 := check.Reads(p, 0)
	// Positions come later.
	_, e5 := check.Calls(p, -1)
	_, e6 := check.Sets(p, len(p.Units))
	_, e7 := check.Reads(p, math.MaxInt)
	if e1 != want || e2 != want || e3 != want || e4 != want || e5 != want || e6 != want || e7 != want || len(calls)+len(order)+len(sets)+len(reads) > 0 {
		t.Errorf("%.300s: Calls %v, %d, Order %v, %d, Sets %v, %d, Reads %v, %d, and %d, %d, %d; want %d", what, calls, e1, order, e2, sets, e3, reads, e4, e5, e6, e7, want)
	}
}

func TestNames(t *testing.T) {
	list := []whole{
		{"", 0, api.OK}, {"program p st end", 1, api.OK}, {"program p st end block b st end function f : int st end", 3, api.OK}, {"program p st end program p st end", 1, api.ErrTwice}, {"program p st end block q st end function p : int st end", 2, api.ErrTwice}, {"block p st end program q st end block p st end program q st end", 2, api.ErrTwice},
		{"program p input a bool; b int; local a bool; st end", 0, api.ErrTwice}, {"program p input a bool; st end block q input a bool; retain b a; local b a; st end", 1, api.ErrTwice}, {"program p input p bool; st end", 0, api.ErrTwice}, {"function f : int local x int; f int; st end", 0, api.ErrTwice}, {"block b output b bool; st end", 0, api.ErrTwice},
		{"program p input q bool; st end block q input p bool; st end", 2, api.OK}, {"program p input abs bool; ton int; f time; st abs1 := 1; end", 0, api.ErrName}, {"program p local abs int; ton bool; f time; st abs := abs(abs); f := f(f); ton := ton; end function f : time input p time; st end", 2, api.OK},
	}
	for name := range strings.FieldsSeq("ctd ctu ftrig rs rtrig sr tof ton tp abs limit max min sel tobool toint totime") {
		list = append(list, whole{"program " + name + " st end", 0, api.ErrTwice}, whole{"block " + name + " st end", 0, api.ErrTwice}, whole{"program p st end function " + name + " : int st end", 1, api.ErrTwice}, whole{"program " + name + "1 local " + name + " bool; st " + name + " := true; end", 1, api.OK})
	}
	expectAll(t, list)
}

func TestFunctions(t *testing.T) {
	expectAll(t, []whole{
		{"function f : int input a int; b bool; local c time; d int; st f := a; end", 1, api.OK}, {"function f : int output a int; st end", 0, api.ErrPlace}, {"function f : int retain a int; st end", 0, api.ErrPlace}, {"function f : int input a int[2]; st end", 0, api.ErrPlace}, {"function f : int local a bool[1]; st end", 0, api.ErrPlace}, {"function f : int local a ton; st end", 0, api.ErrPlace}, {"function f : int input a none1; st end", 0, api.ErrPlace},
		{"function f : bool input a bool; ld rung: a & /a -> f, set f, reset f, /f; end", 1, api.OK}, {"function f : bool input a bool; ld rung: +a -> f; end", 0, api.ErrPlace}, {"function f : bool input a bool; ld rung: a -> f; rung: a & (f | -a) -> f; end", 0, api.ErrPlace}, {"function f : bool input a bool; ld rung: a -> +f; end", 0, api.ErrPlace}, {"function f : bool input a bool; ld rung: a -> f, -f; end", 0, api.ErrPlace}, {"function f : bool ld rung: true -> return; end", 1, api.OK},
		{"function f : bool sfc initial step s; end", 0, api.ErrPlace}, {"function f : bool input a bool; il ldn a; st f; end", 1, api.OK}, {"function f : bool input a bool; fbd f := /:1; 1: and(a, f); end", 1, api.OK}, {"function f : bool il ld f; st f; end", 1, api.OK}, {"function f : int st for f := 1 to 5 do f := f + 1; end_for; f := f; end", 1, api.OK}, {"function f : bool ld rung: f & [f] -> f; end", 1, api.OK},
		{"function f : time st f := 1; end", 0, api.ErrKind}, {"function f : time il ld 1; st f; end", 0, api.ErrKind}, {"function f : int ld rung: f -> f; end", 0, api.ErrKind}, {"function f : int fbd f := true; end", 0, api.ErrKind}, {"function f : int st f[0] := 1; end", 0, api.ErrKind}, {"function f : int st f(); end", 0, api.ErrKind}, {"function f : int st g := 1; end function g : int st end", 0, api.ErrName}, {"function f : bool ld rung: box f(in).q -> f; end", 0, api.ErrKind},
	})
}

func TestAddresses(t *testing.T) {
	list := []whole{
		{"program p input a bool at %i1; b int at %i1; c time at %m1; output d bool at %q1; e int at %m1; f time at %q2; st end", 1, api.OK}, {"program p input a bool at %i1; st end program q input a bool at %i1; b bool at %m1; output c bool at %m1; st end", 2, api.OK}, {"program p output a bool at %q1; b bool at %q1; st end", 0, api.ErrTwice}, {"program p output a bool at %m1; b bool at %m1; st end", 0, api.ErrTwice}, {"program p output a bool at %m1; b int at %q1; st end", 1, api.OK},
		{"program p output a bool at %q1; st end program q output a int at %q1; st end", 1, api.ErrTwice}, {"program p output a bool at %q63; st end program q input b int at %i63; output a int at %q6; st end program r output c time at %q62; d bool at %q63; st end", 2, api.ErrTwice}, {"block b input a bool at %i1; st end", 0, api.ErrPlace}, {"block b output a bool at %q1; st end", 0, api.ErrPlace}, {"function f : int input a int at %i1; st end", 0, api.ErrPlace},
		{"program p input a int[2] at %i1; st end", 0, api.ErrPlace}, {"program p input a int[1] at %i1; st end", 0, api.ErrPlace}, {"program p output a bool[2] at %q1; st end", 0, api.ErrPlace}, {"program p input a ton at %i1; st end", 0, api.ErrPlace}, {"program p output a none1 at %q1; st end", 0, api.ErrPlace},
		// Variables come one after the other.
		{"program p output a bool at %q1; b bool at %q1; c bool at %i1; st end", 0, api.ErrTwice}, {"program p output a bool at %q1; b bool at %i1; c bool at %q1; st end", 0, api.ErrPlace}, {"program p output a bool at %q1; st end block b output a bool at %q1; st end", 1, api.ErrPlace},
	}
	for class, areas := range map[string]string{"input": "%i %m", "output": "%q %m", "local": "", "retain": ""} {
		for area := range strings.FieldsSeq("%i %q %m") {
			x := whole{"program p " + class + " a int at " + area + "0; st end", 0, api.ErrPlace}
			if strings.Contains(areas, area) {
				x.at, x.want = 1, api.OK
			}
			list = append(list, x)
		}
	}
	expectAll(t, list)
}

func TestLayouts(t *testing.T) {
	expectAll(t, []whole{
		{"program p local a b; c ton; st end block b local d sr; st end", 2, api.OK}, {"program p local a b; st end", 0, api.ErrName}, {"program p st end block b local a p; st end", 1, api.ErrKind}, {"program p local a f; st end function f : int st end", 0, api.ErrKind}, {"block b local a b1; st end block b1 local a b; st end", 0, api.ErrRing}, {"program p st end block b local c b; st end", 1, api.ErrRing}, {"program p local c b; st end block b local c b; st end", 0, api.ErrRing},
		{"program p local " + words(13, "x# int[32]; ") + "st end", 0, api.ErrFull}, {"program p st end program q ld " + words(33, "rung: +a -> a; ") + "end", 1, api.ErrFull}, {"program p sfc initial step s macro m; step s_a; macro m(a, a) step a; end; end", 0, api.ErrFull}, {"program p local a b; st end block b local n none1; st end", 0, api.ErrName},
	})
}

func TestRings(t *testing.T) {
	expectAll(t, []whole{
		{"function f : int st f := f(); end", 0, api.ErrRing}, {"function f : int input x int; st f := f; f := 1 + x; end", 1, api.OK}, {"function f : int st f := g(); end function g : int st g := f(); end", 0, api.ErrRing}, {"function f : int st f := g(); end function g : int st g := g(); end", 1, api.ErrRing}, {"function f : int st f := g() + h(); end function g : int st g := h(); end function h : int st h := 5; end", 3, api.OK},
		{"program p local n int; st n := f(); end function f : int st f := g(); end function g : int st g := h(); end function h : int st h := f(); end", 1, api.ErrRing}, {"function f : int st f := g(); end function g : int st g := abs(h()); end function h : int st if true then while 1 = -f() do end_while; end_if; end", 0, api.ErrRing},
		// In all languages, in whatever expression.
		{"function f : int st case f() of 1: end_case; end", 0, api.ErrRing}, {"function f : int st for f := 1 to f() do end_for; end", 0, api.ErrRing}, {"function f : int st x[f()] := none1; end", 0, api.ErrRing}, {"function f : int st if true then elsif f() = 1 then end_if; end", 0, api.ErrRing}, {"function f : int st if true then elsif true then f := f(); end_if; end", 0, api.ErrRing}, {"function f : int st if true then else f := f(); end_if; end", 0, api.ErrRing}, {"function f : int st f := abs(1 + x[-f()]); end", 0, api.ErrRing}, {"function f : int st repeat f := f(); until true end_repeat; end", 0, api.ErrRing}, {"function f : int st t1(in := f()); end", 0, api.ErrRing},
		{"function f : int il ld f(); end", 0, api.ErrRing}, {"function f : int il ld 1; add 2 + f(); end", 0, api.ErrRing}, {"function f : bool ld rung: true & (true | [f()]) -> f; end", 0, api.ErrRing}, {"function f : bool ld rung: box t1(in, pt := f()).q -> f; end", 0, api.ErrRing}, {"function f : int fbd 1: add(2, f()); end", 0, api.ErrRing}, {"function f : int fbd f := f(); end", 0, api.ErrRing}, {"function f : int fbd 1: t1(in := f()).q; end", 0, api.ErrRing},
		{"function f : int st f := g(); end function g : int sfc initial step s do enter (g := f();); end", 0, api.ErrRing}, {"function f : int st f := g(); end function g : int sfc initial step s; from s to s when f() = 1; end", 0, api.ErrRing}, {"function f : int st f := g(); end function g : int sfc initial step s macro m; macro m(a, a) step a; from a to a when f() = 1; end; end", 0, api.ErrRing}, {"function f : int st f := g(); end function g : int sfc initial step s; macro m(a, a) step a; from a to a when f() = 1; end; end", 1, api.ErrPlace},
		{"function f : int st f := g(); end function g : int sfc initial step s macro m; step s_a do enter (g := f();); macro m(a, a) step a; end; end", 1, api.ErrPlace},
		// What is no function is passed over here: a variable, a block, a standard function, and what is not there.
		{"function f : int st f := none1() + g(); end function g : int st end", 0, api.ErrName}, {"function f : int st f := p(); end program p local n int; st n := f(); end", 0, api.ErrKind}, {"function f : int st f := abs(1); end function abs : int input x int; st abs := f(); end", 1, api.ErrTwice}, {"function f : int st f := g(); end block g local n int; st n := f(); end", 0, api.ErrKind}, {"program p local n int; st n := p(); end", 0, api.ErrKind},
		// The first unit of a name is the one that is called.
		{"function f : int st f := g(); end function g : int st end function g : int st g := f(); end", 2, api.ErrTwice},
	})
}

func TestTasks(t *testing.T) {
	units := "program p st end program q st end block b st end function f : int st end program r st end "
	task := func(name, programs string) string {
		return "task " + name + " every t#10 priority 1 run " + programs + "; "
	}
	expectAll(t, []whole{
		{units + task("t", "p"), 5, api.OK}, {units + task("t", "p, r, q"), 5, api.OK}, {units + task("t", "p") + task("u", "q, r"), 5, api.OK}, {units + task("p", "p"), 5, api.OK}, {units + task("ton", "p"), 5, api.OK}, {units + task("t", "p") + task("t", "q"), 6, api.ErrTwice}, {units + task("t", "p") + task("u", "q") + task("t", "r"), 7, api.ErrTwice},
		{units + task("t", "none1"), 5, api.ErrName}, {units + task("t", "p, none1"), 5, api.ErrName}, {units + task("t", "p") + task("u", "ton"), 6, api.ErrName}, {units + task("t", "b"), 5, api.ErrKind}, {units + task("t", "p, f"), 5, api.ErrKind}, {units + task("t", "p, p"), 5, api.ErrTwice}, {units + task("t", "p, q") + task("u", "r, p"), 6, api.ErrTwice}, {units + task("t", "p") + task("u", "p"), 6, api.ErrTwice},
		{task("t", "p"), 0, api.ErrName},
		// Names come first, and then programs one after the other.
		{units + task("t", "p") + task("t", "none1"), 6, api.ErrTwice}, {units + task("t", "none1, b"), 5, api.ErrName}, {units + task("t", "b, none1"), 5, api.ErrKind}, {units + task("t", "p, p, none1"), 5, api.ErrTwice}, {units + task("t", "p") + task("u", "b, p") + task("t", "q"), 6, api.ErrKind}, {units + task("t", "p") + task("u", "p, b"), 6, api.ErrTwice},
	})
}

// TestOrderOfUnits has projects with several errors, the first of which counts: units come one after the other, each with its
// steps, and then tasks.
func TestOrderOfUnits(t *testing.T) {
	task := "task t every t#10 priority 1 run none1; "
	expectAll(t, []whole{
		{"program abs input a bool; a bool; st end", 0, api.ErrTwice}, {"program p st end block p input a p; st end", 1, api.ErrTwice}, {"program p st exit; end program p st end", 0, api.ErrPlace}, {"program p st end program p st exit; end", 1, api.ErrTwice},
		{"function f : int output a int; a int; st end", 0, api.ErrTwice}, {"function f : int output a int; local f int; st end", 0, api.ErrTwice}, {"function f : int output a none1; st end", 0, api.ErrPlace}, {"function f : int local a int at %i1; b none1; st end", 0, api.ErrPlace}, {"program p local a int at %i1; b none1; st end", 0, api.ErrPlace}, {"program p output a int at %q1; b int at %q1; c none1; st end", 0, api.ErrTwice},
		{"program p local c none1; st exit; end", 0, api.ErrName}, {"function f : int st f := f() + none1; exit; end", 0, api.ErrRing}, {"function f : int retain x int; st f := f(); end", 0, api.ErrPlace}, {"function f : int local " + words(32, "x# int; ") + "st exit; f := f(); end", 0, api.ErrRing}, {"program p st none1 := 1; end function f : int st f := f(); end", 0, api.ErrName}, {"program p st end function f : int st exit; end block b local x b; st end", 1, api.ErrPlace},
		// What stands in a function that must not, comes before its layout.
		{"function f : bool input a bool; ld " + words(33, "rung: +a -> f; ") + "end", 0, api.ErrPlace}, {"function f : bool sfc initial step s macro m; step s_a; macro m(a, a) step a; end; end", 0, api.ErrPlace},
		{"program p st exit; end " + task, 0, api.ErrPlace}, {"program p st end " + task, 1, api.ErrName}, {task + "program p st exit; end", 0, api.ErrPlace}, {task + "program p st end program p st end", 1, api.ErrTwice},
		// Units that come later are not sound yet, when they are called.
		{"program p local n int; st n := f(n); end function f : int input x int[2]; st end", 1, api.ErrPlace}, {"program p local n int; st n := f(n, n); end function f : int input x int[2]; st end", 0, api.ErrCount}, {"program p local n int; st n := f(n); end function f : int input x ton; st end", 0, api.ErrKind}, {"program p local x b; st x(a := 1); end block b output a int; input a int; st end", 1, api.ErrTwice}, {"program p local x b; n int; st n := x.a; end block b input a int; output a int; st end", 1, api.ErrTwice},
	})
}

// TestUnit is about Unit, which tells the error of a body if all else is sound, the bodies of other units, too.
func TestUnit(t *testing.T) {
	for _, x := range []struct {
		source string
		want   []api.Errno
	}{
		{"program p st end block b st end", of(api.OK, api.OK)},
		{"program p st exit; end block b st end", of(api.ErrPlace, api.ErrPlace)},
		{"program p st end block b st a := 1; end", of(api.ErrName, api.ErrName)},
		{"program p st end function f : int st f := true; end program q st end", of(api.ErrKind, api.ErrKind, api.ErrKind)},
		// Otherwise the error is that of Check, which may be the one of another body, whatever is in the body of the unit.
		{"program a st exit; end program p st k := 1; end", of(api.ErrPlace, api.ErrPlace)},
		{"program a st k := 1; end program p st exit; end program q st end", of(api.ErrName, api.ErrName, api.ErrName)},
		{"program a st end program p il and true; end program q st exit; end", of(api.ErrKind, api.ErrKind, api.ErrKind)},
		{"program p st exit; end block b st a := 1; end function f : int st f := true; end program q st end", of(api.ErrPlace, api.ErrPlace, api.ErrPlace, api.ErrPlace)},
		{"program p st exit; end task t every t#1 priority 1 run q;", of(api.ErrPlace)},
		{"program p st exit; end block b st a := 1; end program p st end", of(api.ErrPlace, api.ErrPlace, api.ErrPlace)},
		{"program p st end block p st a := 1; end program q st exit; end", of(api.ErrTwice, api.ErrTwice, api.ErrTwice)},
		{"program p st end block b st a := 1; end task t every t#1 priority 1 run q;", of(api.ErrName, api.ErrName)},
		{"program p st end block b st end task t every t#1 priority 1 run b;", of(api.ErrKind, api.ErrKind)},
		{"program p st end function f : int st f := f(); end", of(api.ErrRing, api.ErrRing)},
	} {
		p := read(t, x.source)
		for unit, want := range x.want {
			if err := check.Unit(p, unit); err != want {
				t.Errorf("Unit of %q, %d: %d; want %d", x.source, unit, err, want)
			}
		}
		for _, unit := range of(-1, len(p.Units), math.MinInt, math.MaxInt) {
			if err := check.Unit(p, unit); err != api.ErrArg {
				t.Errorf("Unit of %q, %d: %d", x.source, unit, err)
			}
		}
	}
}

func TestNotWellFormed(t *testing.T) {
	good := read(t, "program p st end program p st end").Units[0]
	wrong := good
	wrong.Body.Lang = api.InChart
	for _, p := range []api.Project{{Units: of(wrong)}, {Units: of(good, wrong)}, {Units: of(good, good, api.Unit{})}, {Units: slices.Repeat(of(good), 17)}, {Tasks: of(api.Task{})}, {Units: of(good), Tasks: slices.Repeat(of(api.Task{Name: "t", Every: 1, Programs: of("p")}), 9)}} {
		if at, err := check.Check(p); at != 0 || err != api.ErrArg {
			t.Errorf("Check of %v: %d, %d", p, at, err)
		}
		if kind, err := check.Expr(p, 0, expression(t, "1")); kind != 0 || err != api.ErrArg {
			t.Errorf("Expr in %v: %d, %d", p, kind, err)
		}
		if err := check.Unit(p, 0); err != api.ErrArg {
			t.Errorf("Unit of %v: %d", p, err)
		}
		expectUnsound(t, "not well formed", p, api.ErrArg)
	}
}
