package lower_test

import (
	"slices"
	"strconv"
	"strings"
	"testing"

	"winch/api"
	"winch/lower"
	"winch/print"
	"winch/project"
)

// sources are projects in all languages, with what matters in each.
func sources() []string {
	return of(
		"", "program p st end", "program p il end", "program p ld end", "program p fbd end", "program p sfc initial step s; end", "task t every t#100 priority 1 run p; program p input a bool; output q bool at %q3; il ld a; st q; end",
		// The examples.
		"program p input a bool; b bool; c bool; output q bool; ld rung: a & (b | /c) -> q; end", "program p input a bool; b bool; output q bool; il ld a; and b; st q; end", "program p input a bool; output q bool; fbd 1: not(a); q := :1; end", "program p input a bool; output q bool; r bool; sfc initial step s0 do while q; step s1 do while r; from s0 to s1 when a; end",
		// Lists: what is loaded and stored, operators of all kinds, and parentheses.
		"program p input a bool; b bool; n int; d time; output q bool; r bool; s bool; m int; e time; local k int := 3; il ldn a; st q; stn r; not; st s; set r; reset q; ld n; add 5; mul k; st m; sub n; div 2; mod 7; st k; ld d; add t#5; sub d; st e; gt t#4; st s; ld n; eq k; andn a; or b; xor a; st q; ld n; le k; orn q; xorn b; st r; ld d; lt e; set s; ld a; ne b; reset s; ld n; ge m; st q; end",
		"program p input a bool; b bool; n int; d time; output q bool; m int; e time; il ld a; and( ; ldn b; or( ; ld n; gt( ; ld d; sub( ; ld t#7; add d; ); gt t#3; and a; st q; ld n; sub 2; st m; ); ); not; ); st q; ld n; div( ; ld 3; ); mul( ; ld n; add( ; ld m; mul 2; ); st m; ); st m; ld d; sub( ; ld d; add t#1; ); st e; end",
		"program p input a bool; b bool; output q bool; r bool; il ld a; andn( ; ld b; ); st q; orn( ; ldn a; st r; not; ); xorn( ; ld q; andn r; ); stn r; xor( ; ld a; ); and( ; ld b; eq( ; ld a; ); ); st q; end",
		// A result that is stored, and then the variable is changed.
		"program p input n int; output m int; k int; il ld n; st m; ld m; st k; ld 5; st m; add k; st k; ld n; add( ; ld n; st m; add 1; st k; ); add m; add k; st m; end",
		// Calls and returns, with and without conditions.
		"program p input a bool; b bool; d time; output q bool; local t ton; c ctu; il ld a; calc t(in := b, pt := d); calcn t(in := a); cal c(cu := t.q, pv := 3); st q; ld c.q; retc; ld b; st q; retcn; ld t.q; stn q; ret; ld a; st q; end", "program p input a bool; output q bool; local r rtrig; il cal r(clk := a); cal r; ld r.q; st q; end",
		// Jumps: forwards, backwards, over others, into loops and out of them, to the first line and the last one, and behind an end.
		"program p input a bool; b bool; n int; output q int; il ld a; jmpc x; ld 1; st q; jmp y; x: ld b; jmpcn z; ld 2; st q; y: ld q; add 10; st q; z: ld q; add 100; st q; end", "program p input n int; output s int; local i int; il ld 0; st i; st s; l: ld i; ge 20; jmpc e; ld i; add 1; st i; mod 3; eq 0; jmpc l; ld s; add i; st s; jmp l; e: ld s; mul 2; st s; end",
		"program p input a bool; b bool; n int; output s int; local i int; il ld a; jmpc m; ld s; add 1; st s; k: ld i; add 1; st i; m: ld i; add 2; st i; gt 9; jmpc o; ld b; jmpc k; jmp m; o: ld 0; st i; ld s; gt 100; jmpcn q; ret; q: ld s; add 7; st s; end", "program p input a bool; output n int; il b: ld n; add 1; st n; mod 5; ne 0; jmpc b; end", "program p input a bool; output n int; il ld a; jmpcn e; ld n; add 1; st n; jmp e; ld n; add 5; st n; e: ld n; add 100; st n; end",
		"program p input a bool; output n int; il jmp e; x: ld n; add 1; st n; ret; e: ld n; add 100; st n; ld a; jmpc x; ld n; add 1000; st n; end", "program p input a bool; output n int; il x: ld n; add 1; st n; ld a; jmpcn x; end", "program p output n int; il ld n; add 1; st n; x: jmp y; y: ld n; add 2; st n; lt 50; jmpc x; end", "program p input a bool; output n int; il ld a; jmpc x; jmpc y; jmpcn x; ld 1; st n; x: ld n; add 2; st n; y: ld n; add 3; st n; end",
		"program p input a bool; b bool; output n int; il f: ld a; jmpcn g; ld n; add 1; st n; mod 4; ne 0; jmpc f; ld b; jmpc h; g: ld n; add 10; st n; h: ld n; add 100; st n; mod 7; eq 0; jmpc g; end",
		// Functions in all languages that they can be in.
		"function f : int input x int; b bool; local y int := 5; il ld b; retc; ld x; add( ; ld y; mul x; ); st f; sub y; st y; ld f; gt 20; retcn; ld y; st f; end program p input n int; b bool; output m int; st m := f(n, b) + f(m, not b); end", "function f : bool input a bool; b bool; n int; local r bool; ld rung: a & (/b | [n > 3]) -> r, jump x; rung: b -> f; rung: r -> return; rung x: [f] | /r -> f; end program p input n int; b bool; output q bool; st q := f(b, q, n); end",
		"function f : time input a time; n int; fbd 1: add(a, t#5); 3: sub(:1, a); f := :2; 2: sub(:1, :3); 4: gt(:2, f); 5: div(n, n); end program p input n int; d time; output e time; st e := f(d, n); end", "function f : int input n int; local i int; il l: ld i; add 1; st i; ld f; add i; st f; ld i; lt n; jmpc l; end function g : int input n int; ld end program p input n int; output m int; st m := f(n) - g(m); end",
		// Names that are there already, that of the unit, too.
		"program next input a bool; output n int; il ld a; jmpc x; ld 1; st n; x: ld n; add 1; st n; end", "function result : int input n int; il ld n; add 1; st result; end program node input n int; output m int; fbd 1: sub(result(n), 1); m := :1; end block state input a bool; output q bool; sfc initial step x do delay t#5 q; end program power input a bool; output q bool; r bool; ld rung: a -> q, /r; end program edge input a bool; output q bool; ld rung: +a -> q; end",
		"program p input result bool; result1 int; output next int; il ld result; jmpc x; ld result1; st next; x: ld 5; add next; st next; end", "program p input power bool; edge bool; output power1 bool; edge1 bool; ld rung: +power & -edge -> power1, +edge1; end", "block b output state int; given int; each int; since int; clock int; sfc initial step a do while (state := state + 1;) do limit_ t#5 (given := given + each;); step b do enter (each := 5;); from a to b when state > since; from b to a when clock = 0; end", "program p output node int; node1 bool; fbd 1: add(node, 1); 2: eq(:1, 5); node := :1; node1 := :2; end",
	)
}

// drawn are projects with ladders, diagrams and charts.
func drawn() []string {
	return of(
		// Ladders: marks of contacts and coils, all elements, and edges in different places.
		"program p input a bool; b bool; n int; output q bool; r bool; s bool; ld rung: a -> q; rung: /a & b -> /r; rung: [n > 2] | true -> s; rung: true -> r; rung: a -> set q, reset s, /r; rung: /b -> reset q; rung: true & /a -> set s; end", "program p input a bool; b bool; output q bool; r bool; n bool; ld rung: +a -> q; rung: -a -> r; rung: +a | -b & q -> set n, +q, -r, r; rung: a -> +n; rung: b -> -n; rung: (+a | a) & (-b | +b) & /n -> n, /q; end", "program p input a bool; output q bool; r bool; ld rung: +q -> q; rung: -r -> r; rung: a -> +q, -q; rung: q -> +r; end",
		// Boxes that are executed with and without power, whose outputs are read before and after, in all places.
		"program p input a bool; b bool; d time; output q bool; r bool; local t ton; c ctu; ld rung: a & box t(in, pt := d).q -> q; rung: box c(cu, r := b, pv := 2).q -> r; rung: [c.cv > 1] & box c(cu, pv := c.cv).q & [c.cv > 2] -> r, q; end", "program p input a bool; b bool; output q bool; local c ctu; ld rung: ([c.cv > 2] | box c(cu, pv := 3).q | [c.cv > 2] & b) & /a -> q; end",
		"program p input a bool; b bool; output q bool; r bool; local f rtrig; g ftrig; h sr; ld rung: b & (a & (box f(clk).q | -b & box g(clk).q) | box h(s1, r := f.q).q1 & /a) & (/b | [g.q]) -> q, +r; rung: true & box f(clk).q & box f(clk).q -> r; end",
		"program p input a bool; b bool; n int; output q bool; local c ctu; d ctd; ld rung: ((a | box c(cu, pv := 2).q & b) & (box d(cd, load := a, pv := n).q | [c.cv > 1] | /b) | b & (a | ([n > 3] | box c(r, cu := b).q))) & +a -> q; end",
		// Jumps and returns, over rungs with edges and boxes.
		"program p input a bool; b bool; output q bool; r bool; local t rtrig; ld rung: a -> q, jump x; rung: +b -> r; rung: box t(clk).q & b -> jump y; rung: /b -> return; rung x: -b | q -> r; rung: a & b -> set q, return; rung y: r -> /r, jump z; rung: true -> +q; rung z: true -> jump w; rung: true -> q; rung w: /q -> reset r; end", "program p input a bool; output q bool; ld rung: a -> jump x; rung: true -> q, return; rung x: /q -> q; end",
		// All of a rung is computed: faults come from the first element that has one, whether there is power or not.
		"program p input n int; m int; a bool; output q bool; local x int[3]; ld rung: (a & [1 / n > 0] | [x[m] = 0]) & /a -> q; rung: a | [x[n] = 1] & ([5 mod m = 1] | a) -> q; end", "program p input n int; m int; output q bool; local c ctu; x int[2]; ld rung: ([x[n] = 0] | box c(cu, pv := 5 / m).q) & [x[m] = 0] -> q; end",
		// Diagrams: nodes in another order, that are taken several times, negated, or not at all.
		"program p input a bool; b bool; n int; d time; output q bool; r bool; m int; e time; fbd q := /:2; 2: or(:1, /b); 1: and(a, /:3); 3: xor(:4, b); 4: gt(n, 5); r := :4; 7: add(:8, d); 8: sub(d, t#3); e := :7; m := n; 9: ge(:7, t#9); 10: eq(:9, /:4); 11: not(/:10); r := :11; 12: ne(:8, :7); q := :12; 13: le(:8, :8); 14: lt(n, m); q := /:13; end",
		"program p input a bool; n int; output q bool; m int; k int; local c ctu; d ctd; fbd 1: c(cu := a, pv := 3).cv; 2: c(cu := /a, r := :3).cv; 3: gt(:1, 2); m := :1; 4: add(:1, :2); k := :4; 5: d(cd := :3, load := a, pv := :4).q; q := /:5; 6: c().q; end", "program p input n int; output m int; local x int[2]; fbd 1: div(10, n); 2: mul(x[n], 2); m := 5; 3: add(m, n); 4: mod(:3, n); end", "program p input n int; output m int; k int; fbd 1: add(m, 1); m := n; 2: add(m, :1); k := :2; m := :1; 3: mul(:1, :1); k := :3; end",
		"program p input a bool; output q bool; r bool; local s sr; fbd 1: s(s1 := a).q1; 2: s(r := :1).q1; 3: s(s1 := :2, r := q).q1; q := :1; r := /:3; 4: xor(:1, :2); r := :4; end",
		// Diagrams of nodes without a number, which are executed, too.
		"program p input a bool; n int; d time; output q bool; m int; local c ctu; t rtrig; fbd 0: not(a); 0: c(cu := a, pv := 2).cv; 1: c(cu := /a).cv; m := :1; 0: t(clk := a).q; 0: add(:1, n); q := t.q; 0: sub(d, d); end", "program p input a bool; n int; m int; d time; output q bool; local x bool[3]; fbd 0: div(1, n); q := a; 0: not(x[m]); end", "program p input n int; m int; d time; output q bool; local x int[3]; fbd 0: add(totime(5 / n), d); q := true; 0: add(x[m], 1); end",
		// Charts: all qualifiers, with variables and statements, and actions of several steps for one variable.
		"program p input a bool; b bool; output q bool; r bool; s bool; n int; m int; k bool; sfc initial step x do while q do enter (n := n + 1;) do leave (m := m + n;) do set s; step y do while q do leave r do enter k do reset s; step z do while (n := n - 1; while n > 3 do n := n - 1; if a then exit; end_if; end_while;) do set k; from x to y when a; from y to z when b; from z to x when a and b; from y to x when not a; end",
		"program p input a bool; output q bool; r bool; s bool; t bool; n int; sfc initial step x do limit_ t#10 q do delay t#10 r do limit_ t#0 s do delay t#0 t do limit_ t#3 (n := n + 1;) do delay t#7 (n := n - 1;); step y do limit_ t#5 r do delay t#20 q; from x to y when a; from y to x when a; end", "program p output q bool; sfc initial step x do limit_ t#2147483647 q; step y do delay t#1 q; from x to y when q; from y to x when q; end",
		// Transitions that compete, fire one after the other, take several steps or none, or lead back to where they come from.
		"program p input a bool; b bool; c bool; output n int; m int; k int; sfc initial step x do enter (n := n + 1;); initial step y do enter (m := m + 1;) do leave (k := k + 1;); step z do while (n := n + 100;); step w do enter (m := m + 100;) do leave (k := k + 100;); from x, y to z when a; from x to w when b; from y to w when b and c; from z to x, y when c; from w to w when a; from w to x when b; from z to z, y when a and b; end", "program p input a bool; output n int; sfc initial step x do while (n := n + 1;); step y do while (n := n + 10;) do enter (n := n + 1000;); from x to x, y when true; from y to x when a; end",
		"program p input a bool; b bool; output n int; sfc initial step x do leave (n := n + 1;) do enter (n := n + 10;); step y do enter (n := n + 100;); from x to y when true; from y to x when a; from y to y when b; end", "program p input a bool; b bool; output n int; m int; sfc initial step x; initial step z do while (n := n + 1;) do enter (m := m + 1;); step y do leave (n := n + 10;); from x to z, y when a; from z to x when b; from y to x, z when a and b; end",
		// Conditions see no action of the same scan, and have their faults in their order, whether transitions can fire or not.
		"program p input n int; m int; output k int; local x int[3]; sfc initial step a do while (k := k + 1;); step b; from b to a when 5 / n > 0; from a to b when k > 3 and x[m] = 0; from b to a when x[n] = 1; end", "program p output n int; sfc initial step a do while (n := n + 1;); step b do while (n := n * 2;); from a to b when n > 5; from b to a when n > 20; end",
		// Variables of actions that set and reset remain as they are when no step is active that has them.
		"program p input a bool; b bool; output q bool; r bool := true; s bool; sfc initial step x do set q do reset r; step y do while s; step z do reset q do set r; step w; from x to y when a; from y to z when b; from z to w when a; from w to x when b; end",
		// Macros.
		"program p input a bool; b bool; output n int; q bool; sfc initial step x macro m; step y do while q; from x to y when a; from y to x when b; macro m(i, o) step i do enter (n := n + 1;) do delay t#9 q; step mid macro k; step o do leave (n := n + 10;); from i to mid when b; from mid to o when a; macro k(e, e) step e do while (n := n + 100;); from e to e when a; end; end; end",
		// Blocks in all languages, that are executed several times in a scan, and not in each.
		"block l input a bool; d time; output q bool; n int; local t ton; il ld a; calc t(in := q, pt := d); ldn t.q; st q; ld n; add 1; st n; end block k input a bool; output q bool; ld rung: +a | -q -> q; rung: a -> -q; end block f input a bool; n int; output m int; local c ctu; fbd 1: c(cu := a, pv := n).cv; 2: add(:1, m); m := :2; end block s input a bool; output q bool; r bool; n int; sfc initial step x do limit_ t#8 q do enter (n := n + 1;); step y do delay t#8 r; from x to y when a; from y to x when not a; end program p input a bool; b bool; n int; d time; output q bool; m int; local l1 l; k1 k; f1 f; s1 s; s2 s; st l1(a := a, d := d); if b then k1(a := a); s1(a := a); end_if; s2(a := b); if a then s2(a := s1.q); f1(a := k1.q, n := n); end_if; q := l1.q xor k1.q xor s1.q xor s2.r; m := l1.n + f1.m + s1.n * 10 + s2.n; end",
		"block s input a bool; output n int; q bool; sfc initial step x do enter (n := n + 1;) do limit_ t#5 (n := n + 10;) do while q; step y; from x to y when a; from y to x when a; end block u input a bool; output q bool; local s1 s; s2 s; ld rung: (box s1(a).q | +a) & box s2(a).q -> q; end program p input a bool; output q bool; local v u; il ld a; calc v(a := a); ld v.q; st q; end",
	)
}

// TestLower lowers projects in all languages.
func TestLower(t *testing.T) {
	t.Parallel()
	r := newRunner(1)
	for _, source := range append(sources(), drawn()...) {
		p := read(t, source)
		q := r.made(t, p, lower.Lower, 60)
		for _, l := range languages(q) {
			if l != api.InText {
				t.Fatalf("%s\nis not low", text(q))
			}
		}
		before := !slices.ContainsFunc(languages(p), func(l int) bool { return l != api.InText })
		is, e1 := lower.IsLow(p)
		isThen, e2 := lower.IsLow(q)
		if is != before || !isThen || e1 != api.OK || e2 != api.OK {
			t.Errorf("%s\nIsLow = %v, %d, and %v, %d when it has been lowered", source, is, e1, isThen, e2)
		}
		r.made(t, q, lower.Lower, 5)
	}
	r.expectFound(t, 20000, 0, 20, 50)
}

// nested returns a body of a ladder in which elements are n deep, in a rung that can be passed over, behind a box.
func nested(n int) string {
	power := "a"
	for i := range n {
		power = of("/b & ", "-b | ", "+a & ", "a | ")[i%4] + "(" + power + ")"
	}
	return "ld rung: b -> jump x; rung: box t(clk).q & (" + power + ") -> q; rung x: " + power + " -> r; end"
}

// TestDeep lowers ladders that are as deep as they can be, and diagrams of many nodes, one after the other.
func TestDeep(t *testing.T) {
	t.Parallel()
	r := newRunner(5)
	for n := range 12 {
		r.made(t, read(t, "program p input a bool; b bool; output q bool; r bool; local t rtrig; "+nested(n)), lower.Lower, 20)
	}
	deep := strings.Repeat("not ", 12) + "a"
	for _, source := range of("rung: ["+deep+"] -> q;", "rung: b -> jump x; rung: ["+deep[4:]+"] -> q; rung x: b -> q;", "rung: b -> jump x; rung: b & ["+deep[8:]+"] -> /q, q; rung x: b -> q;") {
		r.made(t, read(t, "program p input a bool; b bool; output q bool; ld "+source+" end"), lower.Lower, 20)
	}
	body := "1: add(n, 1); "
	for i := 2; i < 100; i++ {
		number, before := strconv.Itoa(i), strconv.Itoa(i-1)
		body += of(number+": add(:"+before+", 1); ", number+": mul(:"+before+", :"+before+"); ", number+": add(:"+before+", 2); m := :"+before+"; ")[i%3]
	}
	r.made(t, read(t, "program p input n int; output m int;"+pad(25)+" local t ton; fbd "+body+"m := :99; end"), lower.Lower, 20)
}

// TestTexts has the texts of bodies that are lowered: what no jump passes over stands alone, and what is plain in one statement.
func TestTexts(t *testing.T) {
	for body, want := range map[string]string{
		"ld rung: a & (b | /a) -> q; end":                                       "q := a and (b or not a);",
		"ld rung: a & b & box t(clk).q & a & b -> q; end":                       "power := a and b; t(clk := power); power := t.q; power := power and (a and b); q := power;",
		"ld rung: a -> q; rung: a -> jump x; rung: b -> q; rung x: a -> q; end": "next := 0; q := a; if a then next := 3; end_if; if next <= 2 then q := b; end_if; q := a;",
		"il ld a; st q; jmpc x; ld b; st q; x: ld a; st q; end":                 "next := 0; result := a; q := result; if result then next := 2; end_if; if next <= 1 then result := b; q := result; end_if; result := a; q := result;",
		"il ld a; st q; x: ld b; st q; jmpc x; ld a; st q; end":                 "next := 0; repeat next := next mod 3; if next <= 0 then result := a; q := result; end_if; result := b; q := result; if result then next := 4; end_if; if next <= 2 then result := a; q := result; end_if; until next < 3 end_repeat;",
		"fbd 1: and(a, b); 2: or(:1, a); q := :2; 3: not(b); q := :3; end":      "node := a and b; node := node or a; q := node; node := not b; q := node;",
		"fbd 0: not(a); 1: not(b); q := a; 0: t(clk := a).q; end":               "if not a then end_if; if not b then end_if; q := a; t(clk := a);",
		"fbd 0: add(1, 2); 1: sub(t#1, t#2); 2: add(3, 4); 3: gt(:2, 5); end":   "if 1 + 2 = 0 then end_if; if t#1 - t#2 = t#0 then end_if; node := 3 + 4; if node > 5 then end_if;",
		"sfc initial step x do while q; step y; from x to y when a; end":        "if a and state[0] > 1 then state[0] := 1; given[1] := true; end_if; for each := 0 to 1 do if given[each] and state[each] <> 2 then state[each] := 3; end_if; given[each] := false; end_for; q := false; if state[0] > 1 then q := true; end_if; for each := 0 to 1 do state[each] := state[each] / 2 * 2; end_for;",
	} {
		p := read(t, "program p input a bool; b bool; output q bool; local t rtrig; "+body)
		q, err := lower.Lower(p)
		got, _ := print.Short(q.Units[0].Body.Text)
		if got != want || err != api.OK {
			t.Errorf("%s\nbecomes %d: %s\nwant %s", body, err, got, want)
		}
	}
}

// TestExamples has the examples of the chapter.
func TestExamples(t *testing.T) {
	r := newRunner(2)
	for other, same := range map[string]string{
		"program p input a bool; b bool; c bool; output q bool; ld rung: a & (b | /c) -> q; end": "program p input a bool; b bool; c bool; output q bool; st q := a and (b or not c); end",
		"program p input a bool; b bool; output q bool; il ld a; and b; st q; end":               "program p input a bool; b bool; output q bool; st q := a and b; end",
	} {
		p, want := read(t, other), read(t, same)
		q := r.made(t, p, lower.Lower, 50)
		r.agree(t, want, q, 50)
		r.agree(t, p, want, 50)
	}
	p := read(t, "program p output n int; st n := n + 1; end")
	if is, err := lower.CanDiagram(p, 0); !is || err != api.OK {
		t.Errorf("CanDiagram = %v, %d", is, err)
	}
	if is, err := lower.CanLadder(p, 0); is || err != api.OK {
		t.Errorf("CanLadder = %v, %d", is, err)
	}
}

// TestOrder is about P14.3: the order of units does not matter.
func TestOrder(t *testing.T) {
	t.Parallel()
	r := newRunner(3)
	r.Size = 4
	for range 150 {
		p, _ := r.Project()
		turned := api.Project{Units: slices.Clone(p.Units), Tasks: p.Tasks}
		slices.Reverse(turned.Units)
		q, err := lower.Lower(turned)
		if err != api.OK {
			t.Fatalf("%s\nLower: %d", text(turned), err)
		}
		slices.Reverse(q.Units)
		r.agree(t, p, q, 2)
	}
	r.expectFound(t, 1000, 0, 5, 2)
}

// TestRandom lowers random projects.
func TestRandom(t *testing.T) {
	t.Parallel()
	r := newRunner(4)
	found := map[int]int{}
	tooLarge := 0
	for range 400 {
		p, _ := r.Project()
		if _, err := lower.Lower(p); err == api.ErrFull && !hasPlace(p) {
			tooLarge++
			continue
		}
		q := r.made(t, p, lower.Lower, 2)
		for _, l := range languages(p) {
			found[l]++
		}
		if again, err := lower.Lower(p); !project.Same(q, again) || err != api.OK {
			t.Fatalf("%s\nis lowered in another way the next time", text(p))
		}
	}
	for l := api.InText; l <= api.InChart; l++ {
		if found[l] < 150 {
			t.Errorf("%d units in the language %d", found[l], l)
		}
	}
	if tooLarge > 4 {
		t.Errorf("%d projects are too large", tooLarge)
	}
	r.expectFound(t, 3000, 0, 20, 10)
}
