package lower_test

import (
	"slices"
	"strings"
	"testing"

	"winch/api"
	"winch/lower"
	"winch/project"
)

// target is a language into which structured text is translated.
type target struct {
	name string
	lang int
	make func(p api.Project, unit int) (api.Project, api.Errno)
}

func targets() []target {
	return of(target{"List", api.InList, lower.List}, target{"Ladder", api.InLadder, lower.Ladder}, target{"Diagram", api.InDiagram, lower.Diagram})
}

// translate checks that a unit is translated into a language, and all the others remain as they are.
func (r *runner) translate(t *testing.T, p api.Project, unit int, into target, runs int) api.Project {
	t.Helper()
	q := r.made(t, p, func(p api.Project) (api.Project, api.Errno) { return into.make(p, unit) }, runs)
	if q.Units[unit].Body.Lang != into.lang {
		t.Fatalf("%s\nis not in the language of %s", text(q), into.name)
	}
	rest, before := api.Project{Units: slices.Clone(q.Units)}, api.Project{Units: slices.Clone(p.Units)}
	rest.Units[unit], before.Units[unit] = api.Unit{}, api.Unit{}
	if !project.Same(rest, before) {
		t.Fatalf("%s\nhas other units than\n%s", text(q), text(p))
	}
	return q
}

// texts are bodies, over the variables a, b (inputs) and q, r of the kind bool, n (an input), m and k of the kind int, d (an input) and
// e of the kind time, x int[3], y bool[2], t ton, c ctu, and v of a block with the input i and the output o of the kind int, w of one
// that has no output of one cell, and two functions f (of an int) and g (of a bool and a time). With them there is what they can be:
// L a list, D a ladder, F a diagram.
func texts() map[string]string {
	return map[string]string{
		"": "LDF", "q := a;": "LDF", "q := not a; r := q and (b or not a) or true;": "LDF", "q := false; r := true; q := not false; r := not true; q := not not a;": "LDF", "q := n > 3 and not (m <= n or d = e) or (a = b) and (a <> q);": "LDF", "q := not (a and b and not r or n < m) and (not (a or b) or q);": "LDF", "q := n + m * 2 > x[1] - f(n) or y[0] = t.q; r := g(a, d) = b and c.cv >= v.o;": "LDF",
		"q := a xor b;": "LF", "q := y[1];": "LF", "q := t.q;": "LF", "q := a and t.q;": "LF", "q := not y[0];": "LF", "q := g(a, d);": "LF", "q := tobool(n);": "LF", "q := a or g(b, d) = a;": "LDF", "q := a; q := b and (a xor r);": "LF", "m := n;": "LF", "e := d;": "LF", "q := a; m := 5;": "LF", "m := n / k + x[m]; k := m mod n; e := d - t#5 + e;": "LF", "m := -n; k := abs(k) + limit(0, n, 5) + toint(d);": "LF",
		"x[1] := n;": "", "y[0] := a;": "", "q := a; x[n] := 5;": "", "if a then x[0] := 1; end_if;": "", "if a then elsif b then x[0] := 1; end_if;": "", "if a then else x[0] := 1; end_if;": "", "case n of 1: x[0] := 1; end_case;": "", "case n of 1: else x[0] := 1; end_case;": "", "for m := 1 to 2 do x[0] := m; end_for;": "", "while false do if a then x[0] := 1; end_if; end_while;": "", "repeat x[0] := 1; until true end_repeat;": "",
		"t(in := a, pt := d); q := t.q;": "LF", "c(cu := a, r := b, pv := n); c(pv := 3, cu := q); m := c.cv;": "LF", "v(i := n); v(); m := v.o;": "LF", "w(i := n);": "L", "w(); q := a;": "L", "t(pt := t#5, in := not t.q); q := t.q; q := a;": "LF", "v(i := v.o / n); t(in := x[n] > 5); m := v.o;": "LF",
		"if a then q := b; end_if;": "L", "if a then m := 1; elsif b then m := 2; elsif q then m := 3; else m := 4; end_if; k := m;": "L", "if a then else m := 5; end_if;": "L", "if a then elsif b then end_if;": "L", "if n > 5 then if a then m := 1; else m := 2; end_if; if b then m := m + 1; end_if; end_if;": "L", "if 5 / n > 0 then m := 1; elsif 5 / m > 1 then m := 0; end_if;": "L", "if a then m := 1; else if b then m := 2; end_if; end_if; if a then t(in := b, pt := t#3); end_if; q := t.q;": "L",
		"case n of 1: m := 5; 2, 3, -1: m := 6; 0: m := 7; end_case;": "L", "case n + k of -2147483647: m := 1; 5: else m := m + 1; k := k + 1; end_case;": "L", "case n of end_case; m := n;": "L", "case 5 / n of else m := 1; end_case;": "L", "case x[n] of 0: case n of 0: m := 1; 1: m := 2; else m := 3; end_case; m := m * 10; 1: m := 4; end_case; k := m;": "L", "case n of 0: case m of 1: k := 2; end_case; 1: if a then m := 1; end_if; 2: case k of 0, 1, 2: m := 2; end_case; else case k of 2: m := 1; end_case; end_case;": "L",
		"for m := 1 to 3 do k := k + m; end_for;": "L", "for m := n to 5 do k := k + m; m := 100; end_for;": "L", "for m := n to k by -3 do k := k - 1; end_for;": "L", "for m := 2147483640 to 2147483647 by 3 do k := k + 1; end_for;": "L", "for m := 2147483647 to 2147483647 do k := k + 1; end_for;": "L", "for m := -2147483647 to -2147483647 - 1 by -1 do k := k + 1; end_for;": "L", "for m := -2147483640 to -2147483647 by -2147483647 do k := k + 1; end_for;": "L", "for m := n to 2147483647 by 2147483647 do k := k + m; end_for;": "L", "for m := 5 / n to x[n] do k := k + 1; end_for;": "L", "for m := x[n] to 5 / n do k := k + 1; end_for;": "L", "for m := 0 to 5 by 2 do for k := m to 0 by -2 do q := not q; if a then exit; end_if; end_for; if b then exit; end_if; k := k + 1; end_for;": "L",
		"for m := 1 to 3 do for k := 1 to m do for m := 1 to 2 do q := not q; end_for; end_for; end_for; for m := 1 to k do r := not r; end_for;": "L", "for m := 3 to 1 do end_for; for m := 1 to 3 do end_for; k := m;": "L", "for m := 1 to 5 do if m = 3 then return; end_if; k := m; end_for;": "L",
		"while m < n do m := m + 1; end_while; m := m - 5;": "L", "while a and m < 5 do m := m + 1; if m = k then exit; end_if; k := k - 1; end_while; m := 0;": "L", "repeat m := m + 1; until m > n or m >= 5 end_repeat; m := 0;": "L", "repeat until true end_repeat;": "L", "repeat repeat m := m + 1; if m mod 3 = 0 then exit; end_if; until m mod 5 = 0 end_repeat; while false do end_while; until m > 20 end_repeat; m := 0;": "L", "while 5 / n > 0 do exit; end_while; k := k + 1;": "L", "repeat exit; m := 1; until 5 / n > 0 end_repeat; k := k + 1;": "L", "while true do while true do if a then exit; end_if; m := m + 1; exit; end_while; k := k + 1; exit; end_while;": "L",
		"return;": "L", "m := 1; return; m := 2;": "L", "if a then return; end_if; m := m + 1;": "L", "if a then m := 1; return; else return; end_if; m := 5;": "L", "while true do m := m + 1; if m > n then return; end_if; if m > 5 then exit; end_if; end_while; m := 0;": "L", "case n of 0: return; 1: m := 5; end_case; m := m + 1;": "L", "for m := 1 to 2 do exit; k := 1; end_for; repeat return; until a end_repeat;": "L",
	}
}

// unitOf returns the source of a project whose first unit has the variables of texts, and a body.
func unitOf(head, body string) string {
	return head + " input a bool; b bool; output q bool; r bool := true; input n int; output m int; k int := -2; input d time; output e time; local x int[3] := 3, -1, 7; y bool[2]; t ton; c ctu; v bl; w none; st " + body + " end block bl input i int; output p int[2]; o int; j int; st o := o + i; p[0] := o; end block none input i int; output p int[2]; local o int; st p[1] := p[1] + i; end function f : int input z int; st f := z * 2 + 1; end function g : bool input z bool; h time; st g := z or h > t#7; end"
}

// TestTranslations translates texts into what they can be.
func TestTranslations(t *testing.T) {
	t.Parallel()
	r := newRunner(11)
	for body, can := range texts() {
		for _, head := range of("program u", "block u") {
			p := read(t, unitOf(head, body))
			for i, into := range targets() {
				is := strings.Contains(can, "LDF"[i:i+1])
				expectCan(t, p, 0, i, is)
				if is {
					q := r.translate(t, p, 0, into, 12)
					r.made(t, q, lower.Lower, 4)
				} else if q, err := into.make(p, 0); err != api.ErrPlace || len(q.Units)+len(q.Tasks) > 0 {
					t.Errorf("%s of %s: %v, %d", into.name, body, q, err)
				}
			}
		}
	}
	r.expectFound(t, 20000, 0, 50, 50)
}

// expectCan checks what CanLadder or CanDiagram says of a unit.
func expectCan(t *testing.T, p api.Project, unit, language int, want bool) {
	t.Helper()
	if language == 0 {
		return
	}
	can := of(lower.CanLadder, lower.CanDiagram)[language-1]
	if is, err := can(p, unit); is != want || err != api.OK {
		t.Errorf("%s\nunit %d can be a %s: %v, %d; want %v", text(p), unit, targets()[language].name, is, err, want)
	}
}

// TestFunctions translates functions, whose own name is a variable.
func TestFunctions(t *testing.T) {
	t.Parallel()
	r := newRunner(12)
	for body, can := range map[string]string{
		"f : bool input a bool; b bool; n int; st f := a and not b; end": "LDF", "f : bool input a bool; b bool; n int; local l bool := true; st l := l and n > 3; f := not (f or a and l); end": "LDF", "f : bool input a bool; b bool; n int; st if a then return; end_if; f := b xor n = 3; end": "L", "f : bool input a bool; b bool; n int; st f := a xor b; end": "LF", "f : bool input a bool; b bool; n int; local l int; st for l := 1 to n do f := not f; if l > 5 then exit; end_if; end_for; end": "L", "f : bool input a bool; b bool; n int; local l bool; m int; st case n of 1: f := a; 2: f := b; else m := n; end_case; f := f or m > 7; end": "L", "f : bool input a bool; b bool; n int; local l time; st l := totime(n); f := l > t#5 and a or b; end": "LF",
	} {
		p := read(t, "program p input a bool; b bool; n int; output q bool; st q := f(a, b, n); end function "+body)
		for i, into := range targets() {
			is := strings.Contains(can, "LDF"[i:i+1])
			expectCan(t, p, 1, i, is)
			if is {
				q := r.translate(t, p, 1, into, 60)
				r.made(t, q, lower.Lower, 20)
			}
		}
	}
	r.expectFound(t, 2000, 0, 0, 0)
	// A ladder has no coil for a result that is no KBool.
	for _, body := range of("f : int st f := 5; end", "f : time st f := t#5; end", "f : int input a int; st f := a; end") {
		expectCan(t, read(t, "function "+body), 0, 1, false)
		expectCan(t, read(t, "function "+body), 0, 2, true)
	}
}

// TestContacts checks that ladders consist of contacts, in series and parallel, and of comparisons.
func TestContacts(t *testing.T) {
	for body, want := range map[string]string{
		"q := a and (b or not c);": "rung: a & (b | /c) -> q;", "q := not (a and not b or c); r := q;": "rung: (/a | b) & /c -> q; rung: q -> r;", "q := a and b and c or not (a and (b and c));": "rung: a & b & c | /a | /b | /c -> q;", "q := not (n < 3) and true or false;": "rung: [not (n < 3)] & true | [false] -> q;",
	} {
		p := read(t, "program p input a bool; b bool; c bool; n int; output q bool; r bool; st "+body+" end")
		q, err := lower.Ladder(p, 0)
		got, _ := project.Body(q.Units[0].Body)
		if got = strings.TrimSpace(strings.ReplaceAll(got, "\n", " ")); got != want || err != api.OK {
			t.Errorf("Ladder of %s: %s, %d; want %s", body, got, err, want)
		}
	}
}

// TestRandomTranslations translates the texts of random projects.
func TestRandomTranslations(t *testing.T) {
	t.Parallel()
	r := newRunner(13)
	r.Languages = "st"
	r.Size = 3
	found := map[string]int{}
	for range 500 {
		p, _ := r.Project()
		unit := r.Choose(len(p.Units))
		for i, into := range targets() {
			q, err := into.make(p, unit)
			switch err {
			case api.OK:
				found[into.name]++
				r.translate(t, p, unit, into, 2)
				if again, err := into.make(p, unit); !project.Same(q, again) || err != api.OK {
					t.Fatalf("%s\nis made a %s in another way the next time", text(p), into.name)
				}
			case api.ErrPlace:
				expectCan(t, p, unit, i, false)
			default:
				t.Fatalf("%s\n%s of unit %d: %d", text(p), into.name, unit, err)
			}
		}
	}
	r.expectFound(t, 3000, 0, 20, 10)
	if found["List"] < 300 || found["Ladder"] < 50 || found["Diagram"] < 80 {
		t.Errorf("%v", found)
	}
}
