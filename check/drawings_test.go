package check_test

import (
	"testing"

	"winch/api"
)

func TestElementExpressions(t *testing.T) {
	slots{
		api.KBool: "ld rung: [?] -> q; ~ ld rung: a & (b | [?]) -> q; ~ ld rung: true -> q; rung: [?] & [a] -> l;",
		api.KInt:  "ld rung: box c1(cu, pv := ?).q -> q; ~ ld rung: a & (b | box b1(i, g := d, j := ?).o) -> q; ~ ld rung: [n = ?] -> q;",
		api.KTime: "ld rung: box t1(in, pt := ?).q -> q; ~ ld rung: [? < d] -> q; ~ ld rung: [x[1] = 5] & box ti(in, pt := d + ?).q -> q;",
	}.expect(t)
}

func TestRungs(t *testing.T) {
	bodies{
		api.OK:       "true -> q; ~ a -> q; ~ /a -> /q; ~ +a -> +q; ~ -a -> -q; ~ a -> set q, reset l, r; ~ q & l & r & b -> l; ~ (a | b | /q) & true -> return; ~ a -> jump x; rung x: b -> q; ~ true -> jump x; rung: a -> q; rung x: true -> return; ~ box t1(in).q -> q; ~ box t1(in, pt := d).q -> q; ~ box ti(in).q -> q; ~ box c1(r, pv := 5, cu := a).q -> q; ~ box b1(i, j := n).o -> q; ~ a & box t1(in).q & (box c1(cu).q | b) -> q; ~ [a] -> q; ~ [n = m] & [d < e] -> q;",
		api.ErrName:  "none1 -> q; ~ /none1 -> q; ~ +none1 -> q; ~ -none1 -> q; ~ a -> none1; ~ a -> /none1; ~ a -> set none1; ~ a -> reset none1; ~ a -> +none1; ~ a -> -none1; ~ a -> q, none1; ~ [none1] -> q; ~ box none1(in).q -> q; ~ box blk(i).o -> q; ~ box t1(x).q -> q; ~ box t1(q).q -> q; ~ box t1(since).q -> q; ~ box t1(in, x := a).q -> q; ~ box t1(in, pt := none1).q -> q; ~ box t1(in).in -> q; ~ box t1(in).runs -> q; ~ box t1(in).x -> q; ~ box b1(i).s -> q; ~ box b1(o).o -> q; ~ main -> q; ~ box s1(i).o -> q;",
		api.ErrPlace: "true -> a; ~ true -> /b; ~ true -> set a; ~ true -> reset a; ~ true -> +a; ~ true -> -a; ~ true -> n; ~ true -> ti; ~ true -> xi; ~ a -> q, a; ~ a -> bi;",
		api.ErrKind: "n -> q; ~ d -> q; ~ /m -> q; ~ +n -> q; ~ -d -> q; ~ y -> q; ~ one -> q; ~ t1 -> q; ~ x -> q; ~ a -> m; ~ a -> e; ~ a -> y; ~ a -> one; ~ a -> t1; ~ a -> set m; ~ a -> reset x; ~ a -> +e; ~ a -> -k; ~ a -> /m; ~ [n] -> q; ~ [d] -> q; ~ box n(in).q -> q; ~ box a(in).q -> q; ~ box x(in).q -> q; ~ box t1(pt).q -> q; ~ box c1(pv).q -> q; ~ box b1(j).o -> q; ~ box b1(g).o -> q; ~ box b1(w).o -> q; ~ box b1(h).o -> q; ~ " +
			"box t1(in, pt := n).q -> q; ~ box t1(in, pt := a).q -> q; ~ box c1(cu, r := n).q -> q; ~ box b1(i, w := n).o -> q; ~ box b1(i, h := a).o -> q; ~ box t1(in).et -> q; ~ box c1(cu).cv -> q; ~ box b1(i).p -> q; ~ box b1(i).u -> q; ~ box b1(i).v -> q; ~ box b1(i).f -> q;",
		api.ErrTwice: "box t1(in, in := a).q -> q; ~ box c1(cu, r := a, r := n).q -> q; ~ box t1(in, pt := d, in := none1).none1 -> q;",
	}.expect(t, "ld rung: ", "")
}

// TestOrderOfRungs has ladders with several errors, the first of which counts, in the order of the text.
func TestOrderOfRungs(t *testing.T) {
	bodies{
		api.ErrName:  "none1 & n -> a; ~ a & (b | none1) & [n] -> q; ~ a -> none1, a; ~ a -> q; rung: none1 -> n; ~ box none1(in, in := a).q -> q; ~ box t1(none1, pt := a).q -> q; ~ box t1(in, none1 := n, in := a).q -> q; ~ box t1(in).none1 -> a; ~ box t1(in, pt := none1, in := a).q -> q; ~ box b1(i).none1 & n -> q; ~ [none1 and n] -> q; ~ [n and none1] & n -> q; ~ (none1 | n) & a -> q;",
		api.ErrPlace: "a -> a, none1; ~ a -> n; rung: none1 -> q; ~ a -> ti, none1;",
		api.ErrKind:  "n & none1 -> none1; ~ a & (n | none1) -> q; ~ [n and a] & none1 -> q; ~ a -> m, none1; ~ n -> q; rung: none1 -> q; ~ box t1(pt, in := none1).none1 -> q; ~ box t1(pt, pt := d).q -> q; ~ box t1(in, pt := n).none1 -> q; ~ box n(none1).none1 -> q; ~ box b1(i, w := none1).o -> q; ~ box t1(in).et & none1 -> q; ~ box b1(w, w := none1).o -> q;",
		api.ErrTwice: "box t1(in, in := n).q -> q; ~ box t1(in, in := a).et -> none1; ~ box t1(in, in := a, none1 := a).q -> q;",
	}.expect(t, "ld rung: ", "")
}

func TestPinExpressions(t *testing.T) {
	slots{
		api.KBool: "fbd q := ?; ~ fbd q := /(?); ~ fbd 1: not(?); ~ fbd 1: not(/(?)); ~ fbd 1: and(a, ?); ~ fbd 1: or(?, /a); ~ fbd 1: xor(/(?), b); ~ fbd 1: eq(a, ?); ~ fbd 1: ne(/a, ?); ~ fbd 1: t1(in := ?).q; ~ fbd 1: t1(pt := d, in := /(?)).q; ~ fbd 1: eq(?, b); q := :1; ~ fbd 1: and(:2, ?); 2: not(a); q := :1;",
		api.KInt:  "fbd m := ?; ~ fbd 1: add(?, n); ~ fbd 1: sub(n, ?); ~ fbd 1: mul(?, ?); ~ fbd 1: div(?, 5); ~ fbd 1: mod(:2, ?); 2: add(n, n); m := :1; ~ fbd 1: gt(n, ?); ~ fbd 1: ge(?, n); ~ fbd 1: eq(n, ?); ~ fbd 1: ne(?, n); ~ fbd 1: le(n, ?); ~ fbd 1: lt(?, n); ~ fbd 1: c1(pv := ?).q; ~ fbd 1: mul(?, n); m := :1;",
		api.KTime: "fbd e := ?; ~ fbd 1: add(?, d); e := :1; ~ fbd 1: sub(d, ?); e := :1; ~ fbd 1: lt(d, ?); q := :1; ~ fbd 1: t1(pt := ?).q; ~ fbd 1: b1(i := a, g := ?).o;",
	}.expect(t)
}

func TestNodes(t *testing.T) {
	bodies{
		api.OK:       "q := a; ~ q := /a; ~ m := n; e := d; ~ ~ 1: and(a, /b); 2: or(:1, q); l := /:2; ~ q := :1; 1: not(a); ~ 1: add(n, 1); 2: gt(:1, m); 3: and(:2, /:2); q := :3; ~ 1: add(d, d); 2: lt(:1, d); q := /:2; ~ 1: t1(in := a, pt := d).et; e := :1; ~ 1: t1().q; q := /:1; ~ 1: c1(cu := :2).cv; 2: c1().q; m := :1; ~ 1: b1(i := a).p; m := :1; ~ 1: b1().u; e := :1; ~ 1: ti(in := q).q; ~ 0: not(a); 0: t1().q; q := a; ~ 1: eq(:2, n); 2: mod(n, 5); 3: ne(:1, b); ~ 1: xor(:2, :2); 2: le(d, :3); 3: sub(d, e);",
		api.ErrName:  "q := none1; ~ none1 := a; ~ 1: not(none1); ~ 1: and(a, none1); ~ 1: none1().q; ~ 1: blk().o; ~ 1: t1(x := a).q; ~ 1: t1(q := a).q; ~ 1: t1(since := d).q; ~ 1: t1(in := none1).q; ~ 1: t1().x; ~ 1: t1().in; ~ 1: t1().since; ~ 1: b1().v; ~ 1: b1().f; ~ 1: b1().s; ~ 1: b1(s := a).o; ~ main := 1; ~ q := t1.x;",
		api.ErrPlace: "a := b; ~ b := /a; ~ n := 1; ~ a := 1; ~ ti := 1; ~ xi := 1; ~ a := :1; 1: not(b);",
		api.ErrKind: "q := n; ~ q := d; ~ m := a; ~ e := n; ~ q := /n; ~ m := /n; ~ x := 1; ~ one := a; ~ t1 := a; ~ t1 := t1; ~ q := y; ~ 1: not(n); ~ 1: not(/n); ~ 1: and(a, n); ~ 1: or(n, n); ~ 1: xor(d, a); ~ 1: and(/n, a); ~ 1: add(a, b); ~ 1: add(n, d); ~ 1: sub(d, n); ~ 1: mul(d, d); ~ 1: div(n, d); ~ 1: mod(a, n); ~ 1: gt(a, b); ~ 1: lt(n, d); ~ 1: eq(n, a); ~ 1: ne(d, n); ~ 1: le(/n, n); ~ 1: ge(d, /d); ~ " +
			"1: n().q; ~ 1: a().q; ~ 1: x().q; ~ 1: t1(in := n).q; ~ 1: t1(pt := a).q; ~ 1: t1(pt := /d).q; ~ 1: c1(pv := d).q; ~ 1: b1(w := n).o; ~ 1: b1(h := none1).o; ~ 1: add(n, n); q := :1; ~ 1: add(n, n); m := /:1; ~ 1: gt(n, n); m := :1; ~ 1: add(d, d); m := :1; ~ 1: t1().et; q := :1; ~ 1: t1().q; e := :1; ~ 1: c1().cv; 2: not(:1); ~ 1: eq(n, n); 2: add(:1, n); ~ 1: not(:2); 2: add(n, n); ~ 1: t1(pt := :2).q; 2: mul(n, n); ~ 1: b1().p; 2: and(a, :1); ~ 1: and(:2, :3); 2: not(a); 3: div(n, n);",
	}.expect(t, "fbd ", "")
}

// TestOrderOfNodes has diagrams with several errors, the first of which counts, in the order of layer 6.
func TestOrderOfNodes(t *testing.T) {
	bodies{
		api.ErrName:  "none1 := none2; ~ q := none1; a := b; ~ a := :1; 1: not(none1); ~ a := none1; ~ m := none1; ~ 1: and(none1, n); ~ 1: and(n, none1); ~ 1: and(:2, n); 2: not(none1); ~ 1: not(:2); q := none1; 2: add(a, a); ~ 1: none1(in := n).q; ~ 1: t1(none1 := n, in := n).q; ~ 1: t1(in := none1, pt := n).q; ~ 1: t1().none1; q := n; ~ none1 := 5; ~ 1: t1(in := a).none1; 2: not(n);",
		api.ErrPlace: "1: not(:2); a := b; 2: not(none1); ~ 1: not(:2); a := b; 2: not(n); ~ a := n; none1 := a; ~ ti := n;",
		api.ErrKind:  "1: not(n); none1 := 1; ~ none1 := /n; ~ a := /n; ~ 1: and(/n, none1); ~ 1: n(none1 := a).none1; ~ 1: t1(in := n).none1; ~ 1: t1(in := n, none1 := a).q; ~ 1: b1(w := none1).none1; ~ none1 := :1; 1: not(n);",
	}.expect(t, "fbd ", "")
}

func TestChartExpressions(t *testing.T) {
	slots{
		api.KBool: "sfc initial step s; from s to s when ?; ~ sfc initial step s; from s to s when a; from s to s when ?; ~ sfc initial step s do while (q := ?;); ~ sfc initial step s macro m; macro m(s, s) step s do enter (if ? then end_if;); end; ~ sfc initial step s macro m; macro m(s, s) step s; from s to s when ?; end; ~ sfc initial step s; step t do set q do limit_ t#5 (q := a; l := ?;);",
		api.KInt:  "sfc initial step s do leave (m := ?;); ~ sfc initial step s; from s to s when n = ?; ~ sfc initial step s do delay t#1 (for k := 1 to ? do exit; end_for;);",
		api.KTime: "sfc initial step s do enter (e := ?;); ~ sfc initial step s do enter (t1(pt := ?);); ~ sfc initial step s; from s to s when ? < d;",
	}.expect(t)
}

func TestCharts(t *testing.T) {
	bodies{
		api.OK: "; ~ do while q; ~ do set q do reset l do limit_ t#5 r do delay t#1 q do enter q do leave q; ~ do while (); ~ do enter (q := a; m := n; t1(in := a);) do leave (x[0] := 1;); ~ do while (while a do exit; end_while;); ~ ; step u do while q; from s, u to u when a; ~ ; step u macro m; macro m(i, o) step i do set q; step o; from i to o when b; end; ~ " +
			"; macro m(i, o) step i do set none1 do enter (return; exit;); step o; from i to o when n; macro k(i, i) step i do while m; end; end;",
		api.ErrName:  "do while none1; ~ do set none1; ~ do reset none1; ~ do limit_ t#1 none1; ~ do delay t#1 none1; ~ do enter none1; ~ do leave none1; ~ do while (none1 := 1;); ~ ; from s to s when none1; ~ do while main; ~ do while s; ~ ; step u macro m; macro m(i, o) step i do set none1; step o; end; ~ ; step u macro m; macro m(i, o) step i; step o; from i to o when none1; end;",
		api.ErrPlace: "do while a; ~ do set a; ~ do reset b; ~ do enter n; ~ do leave ti; ~ do limit_ t#1 xi; ~ do while (a := b;); ~ do while (return;); ~ do enter (if a then return; end_if;); ~ do leave (while a do return; end_while;); ~ do limit_ t#1 (case n of 1: return; end_case;); ~ do delay t#1 (case n of else return; end_case;); ~ do enter (repeat for k := 1 to 2 do return; end_for; until a end_repeat;); ~ do while (exit;); ~ do while (if a then exit; end_if;); ~ do while (while a do end_while; exit;); ~ do enter (while a do exit; end_while;) do enter (exit;); ~ ; step u macro m; macro m(i, i) step i do enter (return;); end; ~ do while (if a then else return; end_if;); ~ do while (if a then elsif b then return; end_if;);",
		api.ErrKind:  "do while m; ~ do set e; ~ do reset m; ~ do enter y; ~ do leave one; ~ do while t1; ~ do limit_ t#1 x; ~ do delay t#1 k; ~ do while (q := n;); ~ ; from s to s when n; ~ ; from s to s when t1; ~ ; from s to s when y;",
		api.ErrTwice: "do while (case n of 1, 1: end_case;); ~ do enter (t1(in := a, in := b););",
		api.ErrFull:  "macro m; macro m(a, a) " + words(31, "step a#; ") + "step a; end; ~ macro m; step s_a; macro m(a, a) step a do while none1; end;",
	}.expect(t, "sfc initial step s ", "")
}

// TestOrderOfCharts has charts with several errors, the first of which counts: steps come first, then transitions, as in the
// flattened chart.
func TestOrderOfCharts(t *testing.T) {
	bodies{
		api.ErrName:  "do while none1 do set a; ~ do enter (none1 := 1; return;) do set a; ~ do set none1; from s to s when n; ~ ; from s to s when n; step u do set none1; ~ macro m; step u do set a; macro m(i, i) step i do set none1; end; ~ macro m; step u; from u to u when none1; macro m(i, i) step i; from i to i when n; end;",
		api.ErrPlace: "do while a do set none1; ~ do enter (return; none1 := 1;); ~ do enter (while a do return; exit; end_while; none1 := 1;); ~ do set a; step u do set none1; ~ do enter (exit; return;); ~ ; step u do set a; from s to s when none1;",
		api.ErrKind:  "do while m do set a; ~ ; from s to s when n; from s to s when none1; ~ macro m; step u do set m; from u to u when none1; macro m(i, i) step i; from i to i when none1; end;",
	}.expect(t, "sfc initial step s ", "")
}
