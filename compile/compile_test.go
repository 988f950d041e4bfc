package compile_test

import (
	"math"
	"slices"
	"strings"
	"testing"

	"winch/api"
	"winch/code"
	"winch/compile"
	"winch/direct"
	"winch/internal/samples"
	"winch/lower"
	"winch/machine"
	"winch/project"
	"winch/types"
)

// TestWritten compiles projects in all languages.
func TestWritten(t *testing.T) {
	t.Parallel()
	r := newRunner(1)
	for _, source := range samples.Written() {
		if p := read(t, source); len(p.Units) > 0 {
			r.agree(t, p, 60)
		}
	}
	r.expectFound(t, 20000, 0, 50, 100)
}

// texts are projects in structured text, with what matters in each statement.
func texts() []string {
	return of(
		// Places and expressions.
		"program p input a bool; n int; d time; x int[3]; output q bool; m int; e time; y bool[2]; local z time[4]; t ton; c ctu; st q := not a; m := -n + 5 * n mod 7 / 3 - 1; e := d + t#5 - d; y[n] := a xor q; x2 := x[m]; z[n + 1] := t.et; e := z[abs(n)]; m := c.cv; q := y[0] or y[1] and a; end",
		"program p input n int; k int; output m int; local x int[3]; st x[5 / n] := 7 / k; m := x[k] / n; x[k] := x[n] mod k; x[x[0]] := x[x[1]]; end",
		"program p input a bool; n int; d time; output q bool; m int; e time; st m := abs(n) + limit(0, n, 5) + max(n, 3) * min(n, 2); m := sel(a, m, -n); q := tobool(n); m := m + toint(d); e := totime(n); q := q = a or n <> m and d >= e xor d < e or n > m = (n <= 2); end",
		// Calls: the inputs are computed before the block is executed, and from its outputs of the time before.
		"program p input a bool; b bool; n int; d time; output q bool; m int; local t ton; c ctu; s sr; f ftrig; st t(in := a, pt := d); c(cu := c.q or a, r := t.q, pv := c.cv + n); s(s1 := c.q, r := s.q1); f(); f(clk := not f.q); q := t.q xor c.q xor s.q1 xor f.q; m := c.cv; c(); end", "program p input n int; k int; output q bool; local c ctu; st c(pv := 5 / n, cu := true); q := c.q; c(cu := 7 mod k = 1, pv := 3); end",
		// Branches.
		"program p input a bool; b bool; n int; output m int; st if a then m := 1; end_if; if b then m := 2; else m := m + 3; end_if; if n > 5 then m := m + 4; elsif n > 3 then m := m + 5; elsif a then else m := m + 6; end_if; if 5 / n = 1 then elsif 7 / (n - 1) = 2 then m := 9; end_if; end",
		"program p input n int; k int; output m int; st case n of 0: m := 1; 1, 2, 3: m := 2; -1, -2147483647, 2147483647: case k of 0: m := 3; return; 1: else m := m + 4; end_case; m := m * 2; 5: else m := m + 7; end_case; case k of end_case; case k / n of else m := m + 1; end_case; case n of 7: end_case; end",
		// Loops.
		"program p input n int; k int; output m int; i int; j int; st for i := 1 to n do m := m + i; end_for; for i := n to 1 by -1 do m := m * 2 + i; i := 50; end_for; for i := n to k do for j := i to n by 2 do m := m + j; if m > 50 then exit; end_if; end_for; if m > 70 then exit; end_if; end_for; for i := k to n by -3 do m := m - 1; end_for; end", "program p input n int; k int; output m int; i int; st for i := 5 / n to 7 / k do m := m + i; end_for; for n1 := 1 to 2 do end_for; end",
		"program p input n int; output m int; i int; st for i := 2147483640 + n to 2147483647 do m := m + 1; end_for; for i := 2147483640 to 2147483640 + n by 3 do m := m + 10; end_for; for i := -2147483640 to -2147483647 - n by -2 do m := m + 100; end_for; for i := n - 2147483647 to -2147483647 by -2147483647 do m := m + 1000; end_for; for i := 0 to 2147483647 by 2147483647 do m := m + 10000; end_for; for i := n to 2147483647 by 2147483647 do m := m + 100000; end_for; for i := 3 to 0 by -1 do end_for; end",
		"program p input n int; k int; output m int; i int; st while i < n do i := i + 1; if i = k then exit; end_if; m := m + i; end_while; repeat m := m + 1; if m > 100 then return; end_if; until m mod 5 = 0 end_repeat; repeat exit; until false end_repeat; while true do repeat i := i - 1; if i < k then exit; end_if; until i < 0 end_repeat; exit; end_while; m := m * 2; end",
		// Ends in loops, with and without others around.
		"program p input n int; k int; output m int; i int; j int; l int; st for i := 1 to 3 do if i = n then return; end_if; for j := i to k do if j = n then return; end_if; while m < 50 do m := m + 7; for l := j to n do if l = 4 then return; m := 5; end_if; m := m + 1; if l = k then exit; m := 6; end_if; end_for; end_while; end_for; m := m + 100; end_for; if n > k then return; end_if; m := m + 1000; end",
		"program p input n int; output m int; i int; st case n of 1: return; 2: for i := 1 to n do case i of 1: m := m + 1; 2: exit; else return; end_case; end_for; end_case; m := m + 10; return; m := 5; end",
		// Functions: their own names, variables with values at first, and faults.
		"function f : int input a int; local k int := 7; input b bool; local j bool := true; z time; st f := a; if b then k := k + f; j := false; return; end_if; f := f + k; if j then f := f * 2; end_if; f := f + toint(z + t#1); z := t#5; end function g : bool input n int; st g := f(n, n > 3) / n > 2; end function h : time st h := t#5; h := h + h; end program p input n int; a bool; output m int; q bool; d time; st m := f(f(n, a), f(n, not a) > n); q := g(m - n); d := h() + h(); end",
		"function f : int input n int; local i int; k int := -5; st for i := 1 to n do for k := i to 3 do f := f + k; if f > 20 then return; end_if; end_for; end_for; for f := 1 to 3 do end_for; end program p input n int; output m int; st m := f(n) * 10 + f(m); end",
		// Blocks in blocks, that are executed several times; a function in a block.
		"function f : int input n int; st f := n * n; end block a input n int; output m int; local s int; t ton; st s := s + n; m := f(s); t(in := m > 5, pt := t#20); if t.q then s := 0; end_if; end block b input n int; output m int; local x a; y a; k int[3]; st x(n := n); y(n := x.m); y(); m := y.m + x.m; k[n] := m; end program p input n int; output m int; local c b; d a; e b; st c(n := n); d(n := c.m); e(n := d.m); m := c.m + d.m + e.m; c(); end",
		// Outputs that are arrays or blocks, and inputs that are.
		"block b input x int[3]; t ton; n int; output y int[2]; u ton; m int; local k int; st k := x[n]; m := m + k; y[1] := m; u(in := t.q, pt := t#5); end program p input n int; output m int; local c b; st c(n := n); m := c.m; end program q input u ton; x int[2]; output y bool; st y := u.q; end",
		// What is written behind others that use it, and a program alone.
		"program p output n int; local c b; st c(); n := c.m + f(n); end block b output m int; local d a; st d(); m := d.m + f(m); end block a output m int; st m := f(m) + 1; end function f : int input n int; st f := g(n) + 1; end function g : int input n int; st g := n mod 100; end", "program p st end program q st end",
	)
}

// TestTexts compiles projects in structured text. (Some of their sources have a statement that is not sound, which is left out.)
func TestTexts(t *testing.T) {
	t.Parallel()
	r := newRunner(2)
	for _, source := range texts() {
		source = strings.NewReplacer("x2 := x[m];", "", "for n1 := 1 to 2 do end_for;", "").Replace(source)
		r.agree(t, read(t, source), 200)
	}
	r.expectFound(t, 15000, 0, 500, 500)
}

// TestRandom compiles random projects.
func TestRandom(t *testing.T) {
	t.Parallel()
	r := newRunner(3)
	for range 700 {
		r.Size, r.Depth = 1+r.Choose(9), 1+r.Choose(4)
		p, _ := r.Project()
		c := r.agree(t, p, 3)
		again, err := compile.Compile(p)
		if !code.Same(c, again) || err != api.OK {
			t.Fatalf("%s\nis compiled in another way the next time", text(p))
		}
		if q, _, err := project.Read(text(p)); err == api.OK {
			if printed, err := compile.Compile(q); !code.Same(c, printed) || err != api.OK {
				t.Fatalf("%s\nis compiled in another way when it has been printed and read", text(p))
			}
		}
	}
	r.expectFound(t, 10000, 50, 100, 30)
}

// TestLowered compiles random projects as they are, and lowered: all cells that have names are the same in runs from the initial cells
// on.
func TestLowered(t *testing.T) {
	t.Parallel()
	r := newRunner(4)
	found := 0
	for range 300 {
		p, _ := r.Project()
		q, err := lower.Lower(p)
		if err != api.OK {
			continue
		}
		c, d := compiled(t, p), compiled(t, q)
		for unit, u := range p.Units {
			hasInput := func(v api.Var) bool { return v.Class == api.VInput && v.Type.Kind == api.KBlock }
			if u.Kind == api.UFunction || slices.ContainsFunc(u.Vars, hasInput) {
				continue
			}
			found += r.compareRuns(t, p, q, c, d, unit)
		}
	}
	if found < 1500 {
		t.Errorf("%d scans", found)
	}
}

// compareRuns compares a run of a unit by two codes, and returns how many scans it has.
func (r *runner) compareRuns(t *testing.T, p, q api.Project, c, d api.Code, unit int) int {
	t.Helper()
	layout, other := layoutOf(p, unit), layoutOf(q, unit)
	positions, _ := direct.Inputs(p, unit)
	// What is lowered can have more cells in the blocks between.
	others, _ := direct.Inputs(q, unit)
	var inputs [][]int
	var times []int
	for i := range 8 {
		var l []int
		for _, at := range positions {
			l = append(l, r.Value(layout[at].Kind))
		}
		inputs, times = append(inputs, l), append(times, 10*i+r.Choose(10))
	}
	first, _ := types.Initial(p, unit)
	start, _ := types.Initial(q, unit)
	at, _ := compile.Unit(p, unit)
	then, _ := compile.Unit(q, unit)
	want, f1, e1 := machine.Run(c, at, first, positions, inputs, times)
	got, f2, e2 := machine.Run(d, then, start, others, inputs, times)
	if e1 != api.OK || e2 != api.OK || f1 != f2 && f1 != api.FFuel && f2 != api.FFuel {
		t.Fatalf("%s\n%s\nunit %d: %d, %d and %d, %d", text(p), text(q), unit, f1, e1, f2, e2)
	}
	for i := range min(len(want), len(got)) {
		for k, x := range layout {
			if x.Name != "" && want[i][k] != got[i][slices.IndexFunc(other, func(y api.Cell) bool { return y.Name == x.Name })] {
				t.Fatalf("%s\n%s\nunit %d, scan %d: %s", text(p), text(q), unit, i, x.Name)
			}
		}
	}
	return min(len(want), len(got))
}

// TestExamples has the examples of the chapter, and some more codes.
func TestExamples(t *testing.T) {
	for source, want := range map[string]string{
		"program p input a bool; output q bool; st q := not a; end":                                               "unit p 1 2 0;load 0;unary 6;store 1;return",
		"program p input a bool; local t ton; st t(in := a); end":                                                 "unit p 1 7 0;load 0;store 1;part 7 1;return",
		"program p input a bool; local c b; d b; st d(a := c.q); end block b input a bool; output q bool; st end": "unit b 2 2 0;return;unit p 1 5 0;load 2;store 3;unit 0 3;return",
		"function f : int input n int; st f := abs(n); end program p output m int; st m := f(5); end":             "unit f 3 2 1;load 1;std 0;store 0;return;unit p 1 1 0;const 5;call 0;store 0;return",
		"program p output q bool; n int; ld rung: true -> q; end":                                                 "unit p 1 2 0;const 1;store 0;return",
		"program p input a bool; output q bool; ld rung: a & a -> /q; end":                                        "unit p 1 2 0;load 0;load 0;binary 10;unary 6;store 1;return",
		"program p input a bool; output q bool; fbd 1: not(a); q := :1; end":                                      "unit p 1 2 0;load 0;unary 6;pick 0;store 1;drop;return",
		"program p il end": "unit p 1 0 0;return",
	} {
		p := read(t, source)
		c := compiled(t, p)
		if !code.Same(c, samples.Assembled(want)) {
			lines, _ := compile.Lines(p)
			t.Errorf("%s: %v", source, lines)
		}
	}
	lines, err := compile.Lines(read(t, "program p input a bool; output q bool; st q := not a; end program r st end"))
	if want := of("unit p 1 2 0", "  load 0 0", "  unary 6 0", "  store 1 0", "  return 0 0", "unit r 1 0 0", "  return 0 0"); !slices.Equal(lines, want) || err != api.OK {
		t.Errorf("Lines: %q, %d", lines, err)
	}
	p := read(t, "program p local c b; st c(); end block b local d a; st d(); end block a output n int; st n := f(n); end function f : int input n int; st f := n; end")
	compiled(t, p)
	for unit, want := range of(3, 2, 1, 0) {
		if at, err := compile.Unit(p, unit); at != want || err != api.OK {
			t.Errorf("Unit(%d) = %d, %d", unit, at, err)
		}
	}
}

// TestTimed has units whose code depends on the time: those that have timed blocks or charts, or execute such ones.
func TestTimed(t *testing.T) {
	for source, want := range map[string]bool{
		"program p st end": false, "program p local t ton; st t(); end": true, "program p local t ton; st end": false, "program p local c ctu; st c(); end": false, "program p sfc initial step s; end": true, "program p local c b; st c(); end block b sfc initial step s; end": true, "program p local c b; st end block b sfc initial step s; end": false,
	} {
		p := read(t, source)
		c := compiled(t, p)
		at, _ := compile.Unit(p, 0)
		if is, err := code.Timed(c, at); is != want || err != api.OK {
			t.Errorf("%s: %v, %d", source, is, err)
		}
	}
}

// TestErrors has projects without a code.
func TestErrors(t *testing.T) {
	for source, want := range map[string]api.Errno{
		"": api.ErrFull, "program p st k := 1; end": api.ErrName, "program p st end program p st end": api.ErrTwice, "program p il and true; end": api.ErrKind, "program p input a bool; st a := true; end": api.ErrPlace, "program p output q int; st q := abs(); end": api.ErrCount, "block b local c b; st end": api.ErrRing, "program p st end task t every t#1 priority 1 run q;": api.ErrName,
		"block b local n int[32]; m int[32]; k int[32]; st end program p local c0 b; c1 b; c2 b; c3 b; c4 b; st end": api.ErrFull,
		// More labels than there can be instructions.
		"program p input n int; st case n of " + numbers(1200) + ": end_case; end": api.ErrFull,
	} {
		expectErrors(t, read(t, source), 0, want)
	}
	for _, p := range of(api.Project{}, api.Project{Units: make([]api.Unit, 20)}, api.Project{Units: of(api.Unit{Kind: api.UProgram, Name: "p", Body: api.Body{Lang: 6}})}, api.Project{Tasks: of(api.Task{})}) {
		want := api.ErrArg
		if len(p.Units)+len(p.Tasks) == 0 {
			want = api.ErrFull
		}
		for _, unit := range of(0, -1, 5) {
			expectErrors(t, p, unit, want)
		}
	}
	good := read(t, "program p st end")
	for _, unit := range of(1, -1, math.MaxInt, math.MinInt) {
		if at, err := compile.Unit(good, unit); at != 0 || err != api.ErrArg {
			t.Errorf("Unit(%d) = %d, %d", unit, at, err)
		}
	}
	// What is wrong with the project comes first.
	expectErrors(t, read(t, "program p st k := 1; end"), 7, api.ErrName)
}

func expectErrors(t *testing.T, p api.Project, unit int, want api.Errno) {
	t.Helper()
	c, e1 := compile.Compile(p)
	at, e2 := compile.Unit(p, unit)
	lines, e3 := compile.Lines(p)
	sizes, e4 := compile.Sizes(p)
	if e1 != want || e2 != want || e3 != want || e4 != want || len(c.Units)+at+len(lines)+len(sizes) > 0 {
		t.Errorf("%.300s: %v, %d; %d, %d; %v, %d; %v, %d; want %d", text(p), c, e1, at, e2, lines, e3, sizes, e4, want)
	}
}
