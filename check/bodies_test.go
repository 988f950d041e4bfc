package check_test

import (
	"strings"
	"testing"

	"winch/api"
)

// slots are bodies in which an expression can stand in the place of ?, by the kind that it must be of.
type slots map[int]string

// expect puts expressions of all kinds, and wrong ones, into the slots.
func (l slots) expect(t *testing.T) {
	t.Helper()
	some := map[int]string{api.KBool: "b1.o", api.KInt: "fi()", api.KTime: "z[0]"}
	for wanted, all := range l {
		for slot := range strings.SplitSeq(all, "~") {
			for kind, source := range some {
				want := api.ErrKind
				if kind == wanted {
					want = api.OK
				}
				body := strings.ReplaceAll(slot, "?", source)
				expectSound(t, body, main(t, body), want)
			}
			for want, sources := range wrongExpressionsAndOperands() {
				source, _, _ := strings.Cut(sources, "~")
				body := strings.ReplaceAll(slot, "?", source)
				expectSound(t, body, main(t, body), want)
			}
		}
	}
}

func TestStatementExpressions(t *testing.T) {
	slots{
		api.KBool: "st q := ?; ~ st l := ?; ~ st r := ?; ~ st y[n] := ?; ~ st t1(in := ?); ~ st t1(pt := t#1, in := ?); ~ st b1(i := ?); ~ st if ? then end_if; ~ st if a then elsif ? then end_if; ~ st if a then elsif b then elsif ? then end_if; ~ st if a then q := ?; end_if; ~ st if a then elsif b then q := ?; end_if; ~ st if a then else q := ?; end_if; ~ " +
			"st while ? do end_while; ~ st while a do q := ?; end_while; ~ st repeat until ? end_repeat; ~ st repeat q := ?; until a end_repeat; ~ st case n of 1: q := ?; end_case; ~ st case n of 1: 2: q := ?; end_case; ~ st case n of else q := ?; end_case; ~ st for k := 1 to 2 do q := ?; end_for; ~ st q := a; q := ?; ~ st while a do if b then q := ?; end_if; end_while;",
		api.KInt:  "st m := ?; ~ st x[?] := 1; ~ st x[1] := ?; ~ st y[?] := true; ~ st c1(pv := ?); ~ st b1(j := ?, i := a); ~ st case ? of end_case; ~ st case ? of 1: end_case; ~ st for k := ? to 5 do end_for; ~ st for k := 1 to ? do end_for; ~ st for k := ? to 5 by -1 do end_for;",
		api.KTime: "st e := ?; ~ st z[1] := ?; ~ st t1(pt := ?); ~ st ti(in := a, pt := ?); ~ st b1(g := ?);",
	}.expect(t)
}

func TestStatements(t *testing.T) {
	bodies{
		api.OK: "q := a; ~ m := n; ~ e := d; ~ x[0] := n; ~ y[5] := a; ~ one[0] := a; ~ yo[0] := 1; ~ r := a; ~ t1(); ~ ti(in := a, pt := d); ~ t1(pt := d, in := q); ~ c1(cu := a, r := b, pv := 5); ~ b1(i := a, j := 1, g := t#1); ~ b1(); ~ s1(); ~ return; ~ if a then return; end_if; ~ while a do return; end_while; ~ ~ " +
			"for k := 1 to 10 do exit; end_for; ~ while a do exit; end_while; ~ repeat exit; until a end_repeat; ~ while a do if b then exit; elsif a then exit; else exit; end_if; end_while; ~ for m := 1 to 2 do case m of 1: exit; else exit; end_case; end_for; ~ while a do while b do exit; end_while; exit; end_while; ~ " +
			"case n of 1, 2, -3: q := a; 4: q := b; 0: else q := a; end_case; ~ case n of 1: end_case; case n of 1: end_case; ~ case n of 1: case m of 1: end_case; end_case;",
		api.ErrName:  "none1 := 1; ~ none1[0] := 1; ~ none1(); ~ for none1 := 1 to 2 do end_for; ~ t1(x := 1); ~ t1(q := a); ~ t1(since := d); ~ t1(runs := a); ~ b1(o := a); ~ b1(s := a); ~ b1(x := a); ~ b1(none1 := a); ~ s1(i := a); ~ main := 1; ~ blk(); ~ ton(); ~ fi := 1; ~ t1(in := a, none1 := none2); ~ c1(r := a, in := a);",
		api.ErrPlace: "a := b; ~ n := 1; ~ d := t#1; ~ xi[0] := 1; ~ xi := 1; ~ ti := 1; ~ ti[0] := none1; ~ n[0] := 1; ~ for n := 1 to 2 do end_for; ~ for a := true to 2 do end_for; ~ for ti := 1 to 2 do end_for; ~ exit; ~ if a then exit; end_if; ~ while a do end_while; exit; ~ case n of 1: exit; end_case; ~ case n of else exit; end_case; ~ if a then else exit; end_if; ~ for k := 1 to 2 do end_for; exit; ~ repeat until a end_repeat; exit; ~ while a do while b do end_while; end_while; exit;",
		api.ErrKind: "q := n; ~ m := a; ~ e := 5; ~ e := n; ~ m := d; ~ q := t#1; ~ x := 1; ~ x := x; ~ yo := n; ~ one := a; ~ t1 := 1; ~ t1 := t1; ~ t1[0] := 1; ~ m[0] := 1; ~ q[0] := a; ~ x[a] := 1; ~ x[d] := 1; ~ x[0] := a; ~ y[0] := 1; ~ z[0] := 1; ~ n(); ~ a(); ~ x(); ~ m(in := none1); ~ t1(in := n); ~ t1(pt := 5); ~ t1(pt := n); ~ c1(pv := d); ~ b1(i := n); ~ b1(w := 1); ~ b1(w := none1); ~ b1(h := a); ~ " +
			"for q := 1 to 2 do end_for; ~ for e := t#1 to t#2 do end_for; ~ for x := 1 to 2 do end_for; ~ for t1 := 1 to 2 do end_for; ~ for k := a to 2 do end_for; ~ for k := 1 to t#2 do end_for; ~ case a of 1: end_case; ~ case d of 1: end_case; ~ if n then end_if; ~ while d do end_while; ~ repeat until n end_repeat;",
		api.ErrTwice: "t1(in := a, in := b); ~ t1(in := a, pt := d, in := none1); ~ b1(i := a, j := 1, i := a); ~ case n of 1, 1: end_case; ~ case n of 1: 2: 1: end_case; ~ case n of 1, 2: 3, -2: 5, -2: end_case; ~ case n of 0: -0: end_case; ~ if a then case n of 1, 1: end_case; end_if;",
	}.expect(t, "st ", "")
}

// TestOrderOfStatements has statements with several errors, the first of which counts.
func TestOrderOfStatements(t *testing.T) {
	bodies{
		api.ErrName: "m := none1; q := 5; ~ none1 := 5 and a; ~ none1[a] := 1; ~ x[none1] := a; ~ x[0] := none1; ~ none1(in := 5, in := 5); ~ t1(none1 := 5, in := a, in := b); ~ t1(in := none1, in := 5); ~ t1(in := none1, pt := 5); ~ if none1 then exit; end_if; ~ if a then none1 := 1; elsif 5 then end_if; ~ if a then elsif none1 then exit; else q := 5; end_if; ~ if a then elsif b then none1 := 1; else exit; end_if; ~ if a then elsif b then none1 := 1; elsif 5 then end_if; ~ " +
			"case none1 of 1, 1: end_case; ~ case n of 1: none1 := 1; 1: end_case; ~ case n of 1: none1 := 1; else exit; end_case; ~ for none1 := a to a do exit; end_for; ~ for k := none1 to a do exit; end_for; ~ for k := 1 to none1 do q := 5; end_for; ~ while none1 do q := 5; end_while; ~ repeat q := 5; until none1 end_repeat; ~ while a do none1 := 1; end_while; exit;",
		api.ErrPlace: "a := none1; ~ n[none1] := a; ~ exit; none1 := 1; ~ for n := none1 to a do end_for; ~ if a then exit; elsif none1 then end_if; ~ case n of 1: exit; 1: end_case;",
		api.ErrKind:  "x := none1; ~ t1 := none1; ~ m[none1] := none1; ~ x[a] := none1; ~ x[n] := a; none1 := 1; ~ n(none1 := a); ~ t1(in := n, in := a); ~ t1(in := 5, none1 := 5); ~ b1(w := 5, w := 5); ~ if n then none1 := 1; end_if; ~ case a of 1, 1: end_case; ~ for k := a to none1 do end_for; ~ for x := none1 to 5 do end_for; ~ for k := 1 to a do none1 := 1; end_for; ~ repeat none1 := 1; until n end_repeat; ~ while n do none1 := 1; end_while;",
		api.ErrTwice: "t1(in := a, in := n); ~ t1(in := a, in := b, none1 := a); ~ case n of 1: 1: none1 := 1; end_case; ~ case n of 1, 1: exit; end_case; ~ case n of 1, 2, 1: none1 := 1; 2: end_case; ~ case n of 1: 2: 2: else exit; end_case;",
	}.expect(t, "st ", "")
}

func TestLineExpressions(t *testing.T) {
	slots{
		api.KBool: "il ld ?; st q; ~ il ldn ?; ~ il ld ?; stn q; ~ il ld ?; set q; ~ il ld ?; not; ~ il ld a; and ?; ~ il ld a; orn ?; ~ il ld a; xor ?; st q; ~ il ld a; eq ?; ~ il ld ?; ne a; ~ il ld ?; jmpc x; x: ld a; ~ il ld ?; retcn; ~ il ld ?; calc t1; ~ il cal t1(in := ?); ~ il cal t1(pt := d, in := ?); ~ il ld a; or( ; ld ?; ); ~ il ld ?; andn( ; ld b; ); ~ il ld a; calcn b1(i := ?);",
		api.KInt:  "il ld ?; st m; ~ il ld n; add ?; ~ il ld n; sub ?; st m; ~ il ld ?; mul 5; ~ il ld n; div ?; ~ il ld n; mod ?; ~ il ld n; gt ?; ~ il ld n; lt ?; ~ il ld n; eq ?; ~ il cal c1(pv := ?); ~ il ld n; add( ; ld ?; ); ~ il ld x[?]; ~ il ld n; mul( ; ld 1; add ?; ); st m;",
		api.KTime: "il ld ?; st e; ~ il ld d; add ?; ~ il ld d; sub ?; st e; ~ il ld ?; add d; st e; ~ il ld d; ge ?; ~ il ld d; le ?; ~ il ld d; ne ?; ~ il cal t1(in := a, pt := ?); ~ il ld d; sub( ; ld ?; );",
	}.expect(t)
}

func TestLines(t *testing.T) {
	bodies{
		api.OK: "ld a; ~ ld n; ~ ld d; ~ ldn a; ~ ld a; st q; st l; st r; ~ ldn a; stn q; ~ ld n; st m; st k; ~ ld d; st e; ~ ld a; set q; reset l; st r; ~ ld a; not; not; st q; ~ ld a; and b; or q; xor l; andn a; orn b; xorn q; st q; ~ ld n; add 1; sub m; mul 2; div k; mod 3; gt 5; and a; st q; ~ ld d; add d; sub t#1; lt d; st q; ~ ld a; eq b; ne q; st q; ~ ld n; eq m; ~ ld d; ne e; ~ ld n; ge 1; ~ ld n; le 1; ~ ~ " +
			"ld n; gt( ; ld m; add 1; ); st q; ~ ld a; and( ; ld b; or( ; ldn q; ); ); st q; ~ ld n; add( ; ld 1; mul( ; ld 2; ); ); st m; ~ ld a; andn( ; ld n; gt 5; ); st q; ~ ld n; eq( ; ld 1; ); and a; ~ cal t1; ld a; cal t1(in := a, pt := d); st q; ~ ld n; cal b1; st m; ~ ld a; calc t1; calcn c1(cu := a); st q; ~ ret; ~ ld a; retc; retcn; st q; ~ cal ti(in := a); ~ " +
			"jmp x; x: ld a; ~ ld a; jmpc x; st q; jmpcn x; st q; x: ld n; st m; ~ x: ld a; jmpc x; ~ ld n; and1: ld a; st q;",
		api.ErrName:  "ld none1; ~ ldn none1; ~ ld a; st none1; ~ ld a; stn none1; ~ ld a; set none1; ~ ld n; add none1; ~ ld a; and none1; ~ cal none1; ~ ld a; calc none1; ~ cal t1(none1 := a); ~ cal t1(in := none1); ~ cal t1(q := a); ~ cal blk; ~ ld a; and( ; ld none1; ); ~ ld a; st main;",
		api.ErrPlace: "ld a; st a; ~ ld a; st b; ~ ld n; st n; ~ ld n; st a; ~ ld a; st ti; ~ ld a; set a; ~ ld a; reset a; ~ ld a; set n; ~ ld a; stn b; ~ ld n; st xi;",
		api.ErrKind: "ldn n; ~ ldn d; ~ ldn x[0]; ~ ld x; ~ ld t1; ~ ld a; st m; ~ ld n; st q; ~ ld n; st e; ~ ld n; st x; ~ ld n; st t1; ~ ld n; stn m; ~ ld d; stn e; ~ ld n; set q; ~ ld a; set m; ~ ld a; set y; ~ ld a; reset e; ~ ld n; not; ~ ld a; and n; ~ ld n; and a; ~ ld n; andn n; ~ ld a; add b; ~ ld n; add d; ~ ld a; gt b; ~ ld n; eq a; ~ ld d; mul d; ~ ld a; cal1: st q; ~ ld n; retc; ~ ld n; calc t1; ~ ld n; jmpc x; x: ret; ~ cal n; ~ cal t1(in := n); ~ cal b1(w := 1); ~ " +
			"st q; ~ stn q; ~ set q; ~ reset q; ~ not; ~ and a; ~ add 1; ~ eq n; ~ and( ; ld a; ); ~ retc; ~ retcn; ~ calc t1; ~ jmpc x; x: ret; ~ cal t1; st q; ~ ld a; ret; st q; ~ ld a; jmp x; st q; x: ret; ~ ld a; jmp x; x: st q; ~ ld a; x: st q; ~ ld a; x: not; ~ ld a; x: and b; ~ ld a; x: and( ; ld b; ); ~ ld a; ret; and( ; ld b; ); ~ ld a; retc; x: retc; ~ " +
			"ld n; and( ; ld a; ); ~ ld a; and( ; ld n; ); ~ ld a; andn( ; ld n; ); ~ ld n; add( ; ld d; ); ~ ld n; add( ; ld n; gt 1; ); ~ ld a; or( ; ld n; add( ; ld m; ); ); ~ ld n; gt( ; ld m; ); st m; ~ ld a; eq( ; ld 1; );",
		api.ErrTwice: "cal t1(in := a, in := b); ~ ld a; calc b1(i := a, i := n);",
	}.expect(t, "il ", "")
}

// TestOrderOfLines has lines with several errors, the first of which counts.
func TestOrderOfLines(t *testing.T) {
	bodies{
		// What the result is comes before the rest of the line.
		api.ErrKind: "st none1; ~ set none1; ~ add none1; ~ and none1; ~ and( ; ld none1; ); ~ ld n; set a; ~ ld n; reset none1; ~ ld n; stn none1; ~ ld n; calc none1; ~ ld n; calcn t1(none1 := a); ~ calc none1; ~ x: st a; ~ ld a; ret; st a; ~ ldn n; st none1; ~ ld a; add b; st none1; ~ ld a; and( ; ld n; ); st none1;",
		// What the operator wants comes last.
		api.ErrName:  "ld n; and none1; ~ ld a; add none1; ~ ld a; gt none1; ~ ld a; add( ; ld none1; ); ~ ld a; ldn none1; ~ ld n; eq none1; not; ~ ld n; st none1; st q; ~ cal t1(none1 := 5, in := a, in := 5);",
		api.ErrPlace: "ld n; st a; ~ ld a; st n; st none1;",
	}.expect(t, "il ", "")
}
