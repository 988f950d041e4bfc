package lower_test

import (
	"slices"
	"strconv"
	"strings"
	"testing"

	"winch/api"
	"winch/internal/samples"
	"winch/lower"
	"winch/print"
	"winch/project"
)

// TestLower lowers projects in all languages.
func TestLower(t *testing.T) {
	t.Parallel()
	r := newRunner(1)
	for _, source := range samples.Written() {
		p := read(t, source)
		q := r.made(t, p, lower.Lower, 60)
		for _, l := range languages(q) {
			if l != api.InText {
				t.Fatalf("%s\nis not low", text(q))
			}
		}
		before := !slices.ContainsFunc(languages(p), func(l int) bool { return l != api.InText })
		is, e1 := lower.IsLow(p)
		isThen, e2 := lower.IsLow(q)
		if is != before || !isThen || e1 != api.OK || e2 != api.OK {
			t.Errorf("%s\nIsLow = %v, %d, and %v, %d when it has been lowered", source, is, e1, isThen, e2)
		}
		r.made(t, q, lower.Lower, 5)
	}
	r.expectFound(t, 20000, 0, 20, 50)
}

// nested returns a body of a ladder in which elements are n deep, in a rung that can be passed over, behind a box.
func nested(n int) string {
	power := "a"
	for i := range n {
		power = of("/b & ", "-b | ", "+a & ", "a | ")[i%4] + "(" + power + ")"
	}
	return "ld rung: b -> jump x; rung: box t(clk).q & (" + power + ") -> q; rung x: " + power + " -> r; end"
}

// TestDeep lowers ladders that are as deep as they can be, and diagrams of many nodes, one after the other.
func TestDeep(t *testing.T) {
	t.Parallel()
	r := newRunner(5)
	for n := range 12 {
		r.made(t, read(t, "program p input a bool; b bool; output q bool; r bool; local t rtrig; "+nested(n)), lower.Lower, 20)
	}
	deep := strings.Repeat("not ", 12) + "a"
	for _, source := range of("rung: ["+deep+"] -> q;", "rung: b -> jump x; rung: ["+deep[4:]+"] -> q; rung x: b -> q;", "rung: b -> jump x; rung: b & ["+deep[8:]+"] -> /q, q; rung x: b -> q;") {
		r.made(t, read(t, "program p input a bool; b bool; output q bool; ld "+source+" end"), lower.Lower, 20)
	}
	body := "1: add(n, 1); "
	for i := 2; i < 100; i++ {
		number, before := strconv.Itoa(i), strconv.Itoa(i-1)
		body += of(number+": add(:"+before+", 1); ", number+": mul(:"+before+", :"+before+"); ", number+": add(:"+before+", 2); m := :"+before+"; ")[i%3]
	}
	r.made(t, read(t, "program p input n int; output m int;"+pad(25)+" local t ton; fbd "+body+"m := :99; end"), lower.Lower, 20)
}

// TestTexts has the texts of bodies that are lowered: what no jump passes over stands alone, and what is plain in one statement.
func TestTexts(t *testing.T) {
	for body, want := range map[string]string{
		"ld rung: a & (b | /a) -> q; end":                                       "q := a and (b or not a);",
		"ld rung: a & b & box t(clk).q & a & b -> q; end":                       "power := a and b; t(clk := power); power := t.q; power := power and (a and b); q := power;",
		"ld rung: a -> q; rung: a -> jump x; rung: b -> q; rung x: a -> q; end": "next := 0; q := a; if a then next := 3; end_if; if next <= 2 then q := b; end_if; q := a;",
		"il ld a; st q; jmpc x; ld b; st q; x: ld a; st q; end":                 "next := 0; result := a; q := result; if result then next := 2; end_if; if next <= 1 then result := b; q := result; end_if; result := a; q := result;",
		"il ld a; st q; x: ld b; st q; jmpc x; ld a; st q; end":                 "next := 0; repeat next := next mod 3; if next <= 0 then result := a; q := result; end_if; result := b; q := result; if result then next := 4; end_if; if next <= 2 then result := a; q := result; end_if; until next < 3 end_repeat;",
		"fbd 1: and(a, b); 2: or(:1, a); q := :2; 3: not(b); q := :3; end":      "node := a and b; node := node or a; q := node; node := not b; q := node;",
		"fbd 0: not(a); 1: not(b); q := a; 0: t(clk := a).q; end":               "if not a then end_if; if not b then end_if; q := a; t(clk := a);",
		"fbd 0: add(1, 2); 1: sub(t#1, t#2); 2: add(3, 4); 3: gt(:2, 5); end":   "if 1 + 2 = 0 then end_if; if t#1 - t#2 = t#0 then end_if; node := 3 + 4; if node > 5 then end_if;",
		"sfc initial step x do while q; step y; from x to y when a; end":        "if a and state[0] > 1 then state[0] := 1; given[1] := true; end_if; for each := 0 to 1 do if given[each] and state[each] <> 2 then state[each] := 3; end_if; given[each] := false; end_for; q := false; if state[0] > 1 then q := true; end_if; for each := 0 to 1 do state[each] := state[each] / 2 * 2; end_for;",
	} {
		p := read(t, "program p input a bool; b bool; output q bool; local t rtrig; "+body)
		q, err := lower.Lower(p)
		got, _ := print.Short(q.Units[0].Body.Text)
		if got != want || err != api.OK {
			t.Errorf("%s\nbecomes %d: %s\nwant %s", body, err, got, want)
		}
	}
}

// TestExamples has the examples of the chapter.
func TestExamples(t *testing.T) {
	r := newRunner(2)
	for other, same := range map[string]string{
		"program p input a bool; b bool; c bool; output q bool; ld rung: a & (b | /c) -> q; end": "program p input a bool; b bool; c bool; output q bool; st q := a and (b or not c); end",
		"program p input a bool; b bool; output q bool; il ld a; and b; st q; end":               "program p input a bool; b bool; output q bool; st q := a and b; end",
	} {
		p, want := read(t, other), read(t, same)
		q := r.made(t, p, lower.Lower, 50)
		r.agree(t, want, q, 50)
		r.agree(t, p, want, 50)
	}
	p := read(t, "program p output n int; st n := n + 1; end")
	if is, err := lower.CanDiagram(p, 0); !is || err != api.OK {
		t.Errorf("CanDiagram = %v, %d", is, err)
	}
	if is, err := lower.CanLadder(p, 0); is || err != api.OK {
		t.Errorf("CanLadder = %v, %d", is, err)
	}
}

// TestOrder is about P14.3: the order of units does not matter.
func TestOrder(t *testing.T) {
	t.Parallel()
	r := newRunner(3)
	r.Size = 4
	for range 150 {
		p, _ := r.Project()
		turned := api.Project{Units: slices.Clone(p.Units), Tasks: p.Tasks}
		slices.Reverse(turned.Units)
		q, err := lower.Lower(turned)
		if err != api.OK {
			t.Fatalf("%s\nLower: %d", text(turned), err)
		}
		slices.Reverse(q.Units)
		r.agree(t, p, q, 2)
	}
	r.expectFound(t, 1000, 0, 5, 2)
}

// TestRandom lowers random projects.
func TestRandom(t *testing.T) {
	t.Parallel()
	r := newRunner(4)
	found := map[int]int{}
	tooLarge := 0
	for range 400 {
		p, _ := r.Project()
		if _, err := lower.Lower(p); err == api.ErrFull && !hasPlace(p) {
			tooLarge++
			continue
		}
		q := r.made(t, p, lower.Lower, 2)
		for _, l := range languages(p) {
			found[l]++
		}
		if again, err := lower.Lower(p); !project.Same(q, again) || err != api.OK {
			t.Fatalf("%s\nis lowered in another way the next time", text(p))
		}
	}
	for l := api.InText; l <= api.InChart; l++ {
		if found[l] < 150 {
			t.Errorf("%d units in the language %d", found[l], l)
		}
	}
	if tooLarge > 4 {
		t.Errorf("%d projects are too large", tooLarge)
	}
	r.expectFound(t, 3000, 0, 20, 10)
}
