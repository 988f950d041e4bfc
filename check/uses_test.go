package check_test

import (
	"math"
	"slices"
	"strings"
	"testing"

	"winch/api"
	"winch/check"
)

// uses is what a body of the program main sets and reads, of its variables.
type uses struct{ body, sets, reads string }

// expectUses checks what Sets and Reads say of a unit.
func expectUses(t *testing.T, what string, p api.Project, unit int, sets, reads string) {
	t.Helper()
	gotSets, e1 := check.Sets(p, unit)
	gotReads, e2 := check.Reads(p, unit)
	if !slices.Equal(gotSets, strings.Fields(sets)) || !slices.Equal(gotReads, strings.Fields(reads)) || e1 != api.OK || e2 != api.OK {
		t.Errorf("%s: Sets %v, %d, Reads %v, %d; want %s and %s", what, gotSets, e1, gotReads, e2, sets, reads)
	}
}

func TestUses(t *testing.T) {
	for _, x := range []uses{
		{"st", "", ""}, {"st q := a;", "q", "a"}, {"st q := q or l;", "q", "q l"}, {"st m := 1; l := true; q := false;", "q m l", ""}, {"st e := d; m := n; q := b or a; e := t#1;", "q m e", "a b n d"}, {"st x[n] := 1;", "x", "n"}, {"st m := x[k];", "m", "k x"}, {"st x[x[0]] := yo[m];", "x", "m yo x"}, {"st r := a and true;", "r", "a"},
		{"st t1(in := a, pt := d);", "t1", "a d"}, {"st t1();", "t1", ""}, {"st q := t1.q;", "q", "t1"}, {"st ti(in := ti.q); m := c1.cv;", "ti m", "ti c1"}, {"st b1(i := b1.o);", "b1", "b1"}, {"st s1();", "s1", ""}, {"st m := fi() + abs(n) + sel(a, k, 5);", "m", "a n k"}, {"st e := ft(d - z[0]);", "e", "d z"},
		{"st if a then m := n; elsif b then e := d; else l := r; end_if;", "m e l", "a b n d r"}, {"st case n of 1: q := a; else l := b; end_case;", "q l", "a b n"}, {"st for k := n to m do x[k] := k; end_for;", "k x", "n m k"}, {"st for k := 1 to 2 do end_for;", "k", ""}, {"st while a do q := b; end_while;", "q", "a b"}, {"st repeat q := b; until a end_repeat;", "q", "a b"}, {"st return; q := a;", "q", "a"},
		{"il ld a; st q;", "q", "a"}, {"il ldn a; stn l; set q; reset r;", "q l r", "a"}, {"il ld n; add m; st k; ld c1.cv; gt x[n]; not; st q;", "q k", "n m x c1"}, {"il ld a; and( ; ld b; ); calc t1(in := l); cal c1;", "t1 c1", "a b l"}, {"il ret; ld a; st q;", "q", "a"}, {"il ld a; jmpc x; ret; x: ld b; set q;", "q", "a b"},
		{"ld rung: a & (/b | +l) & -r -> q;", "q", "a b l r"}, {"ld rung: [n = m] -> q, /l, set r;", "q l r", "n m"}, {"ld rung: true -> reset q, +l, -r;", "q l r", ""}, {"ld rung: a -> jump q; rung q: true -> return;", "", "a"}, {"ld rung: box t1(in, pt := d).q -> q;", "q t1", "d t1"}, {"ld rung: q & box c1(cu, r := b, pv := n).q -> l;", "l c1", "b n q c1"},
		{"fbd q := a;", "q", "a"}, {"fbd l := /:1; 1: and(q, /:2); 2: gt(n, x[k]);", "l", "n q k x"}, {"fbd 1: t1(in := a, pt := :2).q; 2: add(d, e);", "t1", "a d e t1"}, {"fbd 1: c1().cv; m := :1; q := ti.q;", "q m c1", "ti c1"}, {"fbd 1: not(a);", "", "a"},
		{"sfc initial step s do while q do set l do reset r;", "q l r", ""}, {"sfc initial step s do enter (m := n;) do limit_ t#5 q; from s to s when a and t1.q;", "q m", "a n t1"}, {"sfc initial step q do leave (t1(in := b);); from q to q when true;", "t1", "b"}, {"sfc initial step s macro m; macro m(i, o) step i do delay t#1 q; step o do enter (x[n] := k;); from i to o when l; end;", "q x", "n l k"},
		{"sfc initial step s; macro m(i, o) step i do set none1 do enter (q := b;); step o; from i to o when a; end;", "", ""},
	} {
		expectUses(t, x.body, main(t, x.body), 0, x.sets, x.reads)
	}
	// Other units: a function's own name stands in no declaration.
	p := read(t, "function f : int input x int; local y int; z int; st y := f; z := x; f := z + y; end block b input i bool; output o bool; retain r int; st o := i or r = f(r); end program p local v b; w bool; o bool; st v(i := o); w := v.o; end")
	expectUses(t, "a function", p, 0, "y z", "x y z")
	expectUses(t, "a block", p, 1, "o", "i r")
	expectUses(t, "a program", p, 2, "v w", "v o")
}

// expectCalls checks what Calls says of all units, and what Order says.
func expectCalls(t *testing.T, source string, order []int, calls ...[]int) {
	t.Helper()
	p := read(t, source)
	for unit, want := range calls {
		if got, err := check.Calls(p, unit); !slices.Equal(got, want) || err != api.OK {
			t.Errorf("%q: Calls(%d) = %v, %d; want %v", source, unit, got, err, want)
		}
	}
	if got, err := check.Order(p); !slices.Equal(got, order) || err != api.OK {
		t.Errorf("%q: Order = %v, %d; want %v", source, got, err, order)
	}
	for _, unit := range of(-1, len(calls), math.MinInt, math.MaxInt) {
		got, e1 := check.Calls(p, unit)
		sets, e2 := check.Sets(p, unit)
		reads, e3 := check.Reads(p, unit)
		if len(got)+len(sets)+len(reads) > 0 || e1 != api.ErrArg || e2 != api.ErrArg || e3 != api.ErrArg {
			t.Errorf("%q, %d: Calls %v, %d, Sets %v, %d, Reads %v, %d", source, unit, got, e1, sets, e2, reads, e3)
		}
	}
}

func TestCalls(t *testing.T) {
	expectCalls(t, "", nil)
	expectCalls(t, "program p st end", of(0), nil)
	expectCalls(t, "program p local v b; w ton; n int; st n := abs(f(g())); end block b local v c; st end block c st end function f : int input x int; st f := g(); end function g : int st end", of(2, 1, 4, 3, 0), of(1, 3, 4), of(2), nil, of(4), nil)
	expectCalls(t, "program p st end program q st end block b st end", of(0, 1, 2), nil, nil, nil)
	expectCalls(t, "program p local a c; b b; c c; st end block b st end block c st end program q st end", of(1, 2, 0, 3), of(1, 2), nil, nil, nil)
	expectCalls(t, "function a : int st a := b() + d(); end function b : int st b := c(); end function c : int st end function d : int st end function e : int st e := a(); end", of(2, 1, 3, 0, 4), of(1, 3), of(2), nil, nil, of(0))
	expectCalls(t, "program p local v b; st end block b local n int; st n := f(); end function f : int st end", of(2, 1, 0), of(1), of(2), nil)
	// A variable can have the name of a unit, which is not called then.
	expectCalls(t, "program p local f int; b int; st f := b + f; end function f : int st end block b st end", of(0, 1, 2), nil, nil, nil)
	functions := " function f : int st end function g : bool input x int; st end"
	for body, want := range map[string][]int{
		"st m := f();": of(1), "st x[f()] := 1;": of(1), "st c1(pv := f());": of(1), "st if g(1) then end_if;": of(2), "st if a then elsif g(f()) then end_if;": of(1, 2), "st if a then q := g(1); end_if;": of(2), "st if a then elsif b then q := g(1); else m := f(); end_if;": of(1, 2), "st case f() of 1: q := g(1); end_case;": of(1, 2), "st case n of 1: else m := f(); end_case;": of(1), "st for k := f() to 5 do end_for;": of(1), "st for k := 1 to f() do end_for;": of(1), "st while g(1) do end_while;": of(2), "st repeat m := f(); until g(1) end_repeat;": of(1, 2),
		"il ld f();": of(1), "il ld a; and g(1);": of(2), "il cal c1(pv := f());": of(1), "il ld a; st q; ret; ld g(1);": of(2), "ld rung: [g(1)] -> q;": of(2), "ld rung: a & (b | box c1(cu, pv := f()).q) -> q;": of(1), "fbd q := g(1);": of(2), "fbd 1: add(f(), n);": of(1), "fbd 1: c1(pv := f(), cu := :2).q; 2: not(g(1));": of(1, 2), "fbd q := /(g(f()));": of(1, 2),
		"sfc initial step s; from s to s when g(1);": of(2), "sfc initial step s do enter (m := f(););": of(1), "sfc initial step s macro m; macro m(i, i) step i do while (q := g(1);); end;": of(2), "sfc initial step s; macro m(i, i) step i do while (q := g(1);); from i to i when g(f()); end;": nil, "sfc initial step s macro m; macro m(i, i) step i; from i to i when g(f()); end;": of(1, 2),
	} {
		order := of(1, 2, 0)
		if len(want) == 0 {
			order = of(0, 1, 2)
		} else if !slices.Contains(want, 2) {
			order = of(1, 0, 2)
		}
		expectCalls(t, "program p input a bool; b bool; n int; output q bool; m int; local k int; x int[2]; c1 ctu; "+body+" end"+functions, order, want, nil, nil)
	}
}
