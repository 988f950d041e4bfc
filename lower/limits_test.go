package lower_test

import (
	"math"
	"slices"
	"strconv"
	"strings"
	"testing"

	"winch/api"
	"winch/chart"
	"winch/lower"
	"winch/syntax"
	"winch/types"
)

// size is how many nodes a body has, and how deep they are.
type size struct{ nodes, depth int }

func (s *size) exprs(l []api.Expr, depth int) {
	for _, e := range l {
		s.nodes++
		s.depth = max(s.depth, depth)
		s.exprs(e.Args, depth+1)
	}
}

func (s *size) stmts(l []api.Stmt) {
	nodes, depth, _ := syntax.Nodes(l)
	s.nodes += nodes
	s.depth = max(s.depth, depth)
}

func (s *size) power(p api.Power, depth int) {
	s.nodes++
	s.depth = max(s.depth, depth)
	s.exprs(p.Arg, depth+1)
	s.exprs(p.Args, depth+1)
	for _, part := range p.Parts {
		s.power(part, depth+1)
	}
}

func (s *size) chart(c api.Chart) {
	for _, x := range c.Steps {
		s.nodes += 1 + len(x.Actions)
		for _, a := range x.Actions {
			s.stmts(a.Body)
		}
	}
	for _, x := range c.Trans {
		s.nodes++
		s.exprs(of(x.When), 1)
	}
	for _, m := range c.Inner {
		s.nodes++
		s.chart(m)
	}
}

func sizeOf(b api.Body) size {
	var s size
	s.stmts(b.Text)
	for _, x := range b.List {
		s.nodes++
		s.exprs(x.Arg, 1)
	}
	for _, x := range b.Rungs {
		s.nodes += 1 + len(x.Coils)
		s.power(x.Power, 1)
	}
	for _, x := range b.Nodes {
		s.nodes += 1 + len(x.Pins)
		for _, p := range x.Pins {
			s.exprs(p.Arg, 1)
		}
	}
	s.chart(b.Chart)
	return s
}

// hasPlace reports whether P14.1 promises that a project can be lowered.
func hasPlace(p api.Project) bool {
	for i, u := range p.Units {
		_, _, cells, _ := types.Frame(p, i)
		blocks := 0
		for _, v := range u.Vars {
			if _, is := types.Standard(v.Type.Block); v.Type.Kind == api.KBlock && !is {
				blocks++
			}
		}
		most := 60
		if u.Body.Lang == api.InLadder || u.Body.Lang == api.InChart {
			most = 20
		}
		s := sizeOf(u.Body)
		isOther := u.Kind == api.UFunction && u.Body.Lang != api.InText && u.Body.Lang != api.InList
		if u.Kind == api.UBlock && blocks > 0 || blocks > 1 || len(u.Vars) > 20 || cells > 100 || s.nodes > most || s.depth > 6 || isOther || !isSmall(u.Body) {
			return false
		}
	}
	return true
}

// isSmall reports whether the parts of a body are few, in the way in which its language has them.
func isSmall(b api.Body) bool {
	open, numbers := 0, 0
	for _, x := range b.List {
		if x.Op == api.LOp && x.Open {
			open++
		} else if x.Op == api.LClose {
			open--
		}
		if open > 3 || x.Op == api.LJump {
			return false
		}
	}
	for _, x := range b.Nodes {
		if x.Number != 0 {
			numbers++
		}
	}
	flat, _ := chart.Flatten(b.Chart)
	for _, x := range flat.Trans {
		if len(x.From) > 2 || len(x.To) > 2 {
			return false
		}
	}
	return numbers <= 10 && len(flat.Steps) <= 12 && len(flat.Trans) <= 8
}

// pad returns so many variables, the last ones of a unit.
func pad(n int) string {
	text := " local"
	for i := range n {
		text += " x" + strconv.Itoa(i) + " int;"
	}
	if n == 0 {
		return ""
	}
	return text
}

// largest are projects that are as large as P14.1 lets them be, in one way or another.
func largest() []string {
	results := "il ld n; add( ; ld m; sub( ; ld n; mul( ; ld m; add 1; ); ); ); st m; ld d; add( ; ld e; sub( ; ld d; add( ; ld e; sub t#1; ); ); ); st e; ld a; and( ; ldn b; orn( ; ld a; xor( ; ld b; ); ); ); st q; end"
	return of(
		"program p input a bool; b bool; n int; d time; output q bool; m int; e time;"+pad(13)+results,
		"function q : bool input a bool; b bool; n int; d time; local m int; e time;"+pad(14)+results+" program p input a bool; b bool; n int; d time; output r bool; m int;"+pad(14)+"st r := q(a, b, n, d); end",
		"program p input a bool; b bool; output q bool; r bool; local t rtrig; u sr;"+pad(14)+"ld rung: b | a & (b | box t(clk).q & (/a | -b | box u(s1).q1)) & +a -> q, +r; end",
		"program p input a bool; b bool; output q bool; r bool; local t rtrig; u sr;"+pad(14)+"ld rung: -a | a & (b | a & (+a | box t(clk).q) & b) -> q; rung: a -> /r; end",
		"program p input a bool; b bool; output q bool; r bool; local t rtrig; u sr;"+pad(14)+"ld rung: +a & (+b | -a & (-b | +a & -b) & -b | -a) & +b -> -q, -r, -q, -r; end",
		"program p input a bool; b bool; output q bool; r bool; local t rtrig; u sr;"+pad(14)+"ld rung: box t(clk).q | a & (box u(s1).q1 | b & (box t(clk).q | /a) & (b | box u(s1).q1)) -> q; end",
		"program p input a bool; b bool; output q bool; r bool;"+pad(16)+"ld rung: a & (b & a & (/a | b) | /a & b | +a & b & a & /a & b) -> q; end",
		"program p input a bool; b bool; output q bool; r bool;"+pad(16)+"ld rung: a -> q, jump y; rung: b -> r, jump z; rung y: /a -> set r, jump z; rung: +b -> return; rung z: b -> -r; end",
		"program p input a bool; n int; d time; output q bool; m int; e time; local c ctu; r bool;"+pad(12)+"fbd 1: add(n, 1); 2: sub(d, t#1); 3: not(a); 4: c(cu := :3, pv := :1).cv; 5: mul(:1, :4); 6: add(:2, :2); 7: xor(:3, a); 8: gt(:6, :2); 9: and(:7, :8); 10: sub(:5, :1); m := :10; e := :6; q := :9; r := :3; m := :5; e := :2; m := :4; q := /:7; r := :8; m := :1; end",
		"program p input a bool; n int; output q bool; m int; local c ctu;"+pad(15)+"fbd 1: eq(:2, :3); 2: mod(:4, :4); 3: div(:4, :5); 4: add(:6, :7); 5: add(:6, :8); 6: add(:9, :10); 7: sub(:9, :10); 8: mul(:9, :10); 9: add(n, m); 10: c(cu := a, pv := n).cv; m := :6; m := :7; m := :8; m := :9; m := :10; q := :1; end",
		"program p input a bool; n int; d time; output q bool; local c ctu;"+pad(15)+"fbd 1: not(a); 2: not(:1); 3: not(:2); 4: not(:3); 5: not(:4); 6: not(:5); 7: not(:6); 8: not(:7); 9: not(:8); 10: not(:9); 0: add(n, 1); 0: sub(d, d); 0: not(a); 0: c(cu := a).cv; 0: and(:1, :2); 0: xor(:3, :4); 0: or(:5, :6); 0: eq(:7, :8); 0: ne(:9, :10); q := :1; end",
		"program p input n int; m int; d time; output q bool; local x int[3]; c ctu;"+pad(14)+"fbd "+strings.Repeat("0: div(n, m); 0: add(d, d); 0: c().cv; 0: lt(d, d); ", 3)+"0: not(q); 0: mod(x[m], n); end",
		"program p input a bool; b bool; output q bool; r bool; n int;"+pad(15)+"sfc initial step s0 do while q; step s1 do enter r; step s2 do leave r; step s3 do limit_ t#3 q; from s0, s1 to s2, s3 when a; from s2, s3 to s0, s1 when b; from s0 to s1, s2 when b; from s1, s2 to s0, s3 when a; from s3 to s0, s1 when true; from s0, s2 to s1, s3 when a; end",
		"program p input a bool; output q bool; r bool; n int;"+pad(16)+"sfc initial step s0; initial step s1; step s2; step s3; from s0, s1 to s2, s3 when a; from s2, s3 to s0, s1 when a; from s0, s2 to s1, s3 when a; from s1, s3 to s0, s2 when a; from s0, s3 to s1, s2 when a; from s1, s2 to s0, s3 when a; from s0, s1 to s3, s2 when a; from s3, s2 to s1, s0 when a; end",
		"program p input a bool; output q bool; r bool; n int;"+pad(16)+"sfc initial step s0 do limit_ t#1 q do delay t#2 r do limit_ t#3 r do delay t#4 q do limit_ t#5 q do delay t#6 r do limit_ t#7 r do delay t#8 q do limit_ t#9 q do delay t#10 r do limit_ t#11 r do delay t#12 q do limit_ t#13 q do delay t#14 r do limit_ t#15 r do delay t#16 q do limit_ t#17 q do delay t#18 r do delay t#19 q; end",
		"program p input a bool; output q bool; local n int;"+pad(17)+"sfc initial step s0; step s1; step s2; step s3; step s4; step s5; step s6; step s7; step s8; step s9; step t0; step t1 do delay t#5 q; from s0 to t1, s5 when a; from t1 to s0 when a; from s5 to s0, s6 when true; end",
		"program p input a bool; output q bool; local n int;"+pad(17)+"sfc initial step s0 macro m; step s1 do enter q; from s0 to s1 when a; from s1 to s0 when a; macro m(i, o) step i; step j macro k; step o; from i to j when a; from j to o when true; macro k(l, l) step l do delay t#3 q; end; end; end",
		// Blocks of 100 cells in a program of 100 cells.
		"block b input a bool; output q bool; local n int[32]; m int[32]; sfc initial step s0 do delay t#5 q; step s1; step s2; step s3; step s4; step s5; step s6; step s7; step s8; step s9; step t0; step t1; from s0 to s1 when a; from s1 to s0 when a; end program p input a bool; output q bool; local x b; sfc initial step s0; step s1 do delay t#3 (x(a := not a);) do while q; from s0 to s1 when a; end",
		"program p input a bool; b bool; output q bool; r bool;"+pad(16)+"ld rung: a | b & (a | +b & (a | b | -a) & b | b) & /a | b -> q; end",
		"program p input a bool; b bool; output q bool; r bool;"+pad(16)+"ld rung: a & (+a | b & (-a | b) & /a | b) & b & (a | +b & b) -> q; end",
	)
}

// TestLargest lowers projects that are as large as they may be.
func TestLargest(t *testing.T) {
	t.Parallel()
	r := newRunner(21)
	for _, source := range largest() {
		p := read(t, source)
		if !hasPlace(p) {
			for _, u := range p.Units {
				t.Errorf("%s has %v", u.Name, sizeOf(u.Body))
			}
			t.Errorf("%s\nis too large", text(p))
			continue
		}
		r.made(t, p, lower.Lower, 30)
	}
	r.expectFound(t, 3000, 0, 0, 0)
}

// padded returns a project whose units have n variables, and as many of the kind int as are missing.
func padded(p api.Project, n int) api.Project {
	q := api.Project{Units: slices.Clone(p.Units), Tasks: p.Tasks}
	for i := range q.Units {
		q.Units[i].Vars = slices.Clone(q.Units[i].Vars)
		for len(q.Units[i].Vars) < n {
			name := "x" + strconv.Itoa(len(q.Units[i].Vars))
			q.Units[i].Vars = append(q.Units[i].Vars, api.Var{Name: name, Class: api.VLocal, Type: api.Type{Kind: api.KInt}})
		}
	}
	return q
}

// TestSmall lowers random projects of which P14.1 promises that they can be.
func TestSmall(t *testing.T) {
	t.Parallel()
	r := newRunner(22)
	found := map[int]int{}
	for found[api.InList]+found[api.InLadder]+found[api.InDiagram]+found[api.InChart] < 600 {
		r.Size, r.Depth = 2+r.Choose(8), 1+r.Choose(3)
		r.Languages = of("st il", "ld ld st", "fbd st", "sfc st", "il fbd ld sfc st")[r.Choose(5)]
		p, _ := r.Project()
		p = padded(p, 20)
		if !hasPlace(p) {
			continue
		}
		r.made(t, p, lower.Lower, 1)
		for _, l := range languages(p) {
			found[l]++
		}
	}
	for l := api.InText; l <= api.InChart; l++ {
		if found[l] < 40 {
			t.Errorf("%d units in the language %d", found[l], l)
		}
	}
}

// labels returns how many labels of arms there are in statements.
func labels(l []api.Stmt) int {
	n := 0
	for _, x := range l {
		n += labels(x.Body) + labels(x.Other)
		for _, a := range x.Arms {
			n += len(a.Labels) + labels(a.Body)
		}
	}
	return n
}

// hasList reports whether P14.2 promises that a unit whose body can be a list can become one.
func hasList(p api.Project, unit int) bool {
	u := p.Units[unit]
	_, _, cells, _ := types.Frame(p, unit)
	s := sizeOf(u.Body)
	return u.Kind != api.UBlock && len(u.Vars) <= 20 && cells <= 100 && s.nodes <= 30 && s.depth <= 6 && labels(u.Body.Text) <= 20
}

// TestSmallLists makes lists of random texts of which P14.2 promises that they can be.
func TestSmallLists(t *testing.T) {
	t.Parallel()
	r := newRunner(23)
	r.Languages = "st"
	lists := 0
	for lists < 300 {
		r.Size, r.Depth = 2+r.Choose(6), 2+r.Choose(3)
		p, _ := r.Project()
		p = padded(p, 20)
		unit := r.Choose(len(p.Units))
		if _, err := lower.List(p, unit); err == api.ErrPlace || !hasList(p, unit) || len(p.Units[unit].Body.Text) == 0 {
			continue
		}
		lists++
		r.translate(t, p, unit, targets()[0], 1)
	}
}

// TestLargestLists makes lists of texts that are as large as P14.2 lets them be.
func TestLargestLists(t *testing.T) {
	r := newRunner(24)
	loops := "for m := 1 to 2 do for m := m to n do for k := n to 2 do for m := 2 to k by -1 do for k := 1 to m do end_for; end_for; end_for; case n of 0: k := 1; 1, 2, 3, 4, 5, 6, 7, 8, 9, 10, 11, 12, 13, 14, 15, 16, 17, 18, 19: end_case; end_for; end_for;"
	flat := strings.Repeat("for m := k to n do end_for; ", 10)
	cases := "case n of -1: k := 1; -2, -3, -4, -5, -6, -7, -8, -9, -10: m := n; -11, -12, -13, -14, -15: case m of -1, -2, -3, -4: k := m; -5: k := 2; else return; end_case; else m := m + 1; end_case;"
	for _, body := range of(loops, flat, cases) {
		for _, p := range of(read(t, "program p input n int; local m int; k int;"+pad(17)+"st "+body+" end"), read(t, "function m : int input n int; local k int;"+pad(18)+"st "+body+" end program p input n int; output m1 int; st m1 := m(n); end")) {
			if !hasList(p, 0) {
				t.Errorf("%s\nis too large: %v, %d labels", text(p), sizeOf(p.Units[0].Body), labels(p.Units[0].Body.Text))
				continue
			}
			r.translate(t, p, 0, targets()[0], 20)
		}
	}
	r.expectFound(t, 500, 0, 0, 0)
}

// TestTooLarge has projects that can't be made anew, as there is no place left for what must be kept, or for the statements.
func TestTooLarge(t *testing.T) {
	vars := func(n int) string { return " input a bool; output q bool; n int;" + pad(n-3) }
	for _, source := range of(
		"program p"+vars(32)+"sfc initial step s do delay t#5 q; step r; from s to r when a; end", "program p"+vars(31)+"sfc initial step s do while q; step r; from s to r when a; end", "program p"+vars(32)+"ld rung: +a -> q; end", "program p"+vars(32)+"il l: ld n; add 1; st n; lt 5; jmpc l; end", "program p"+vars(32)+"fbd 1: add(n, 1); n := 5; n := :1; end",
		"program p input n int; output m int; il "+strings.Repeat("ld n; add 1; st m; ", 100)+"end", "program p input a bool; output q bool; r bool; ld "+strings.Repeat("rung: +a -> q, r; ", 32)+strings.Repeat("rung: /a -> q, r, q, r; ", 60)+"end",
		"block b input a bool; output q bool; local x int[32]; sfc initial step s do delay t#5 q; end program p local c0 b; c1 b; c2 b; c3 b; c4 b; c5 b; c6 b; c7 b; c8 b; c9 b; st c0(); end",
	) {
		p := read(t, source)
		if q, err := lower.Lower(p); err != api.ErrFull || len(q.Units)+len(q.Tasks) > 0 {
			t.Errorf("%s\nLower: %v, %d", source, q, err)
		}
	}
	for i, source := range of("program p"+vars(32)+"st for n := 1 to 5 do n := 0; end_for; end", "program p input a bool; output q bool; r bool; st "+strings.Repeat("q := a; r := not a; ", 90)+"end", "program p input n int; output m int; k int; st "+strings.Repeat("m := n; k := m; ", 125)+"end") {
		p := read(t, source)
		if q, err := targets()[i].make(p, 0); err != api.ErrFull || len(q.Units)+len(q.Tasks) > 0 {
			t.Errorf("%s\n%s: %v, %d", source, targets()[i].name, q, err)
		}
	}
	if q, err := lower.List(read(t, "program p input n int; output m int; st "+strings.Repeat("if n = 5 then m := 1; end_if; ", 70)+"end"), 0); err != api.ErrFull || len(q.Units) > 0 {
		t.Errorf("List of many nodes: %v, %d", q, err)
	}
}

// TestErrors has projects that are not sound, and units that are not there.
func TestErrors(t *testing.T) {
	for source, want := range map[string]api.Errno{
		"program p st end": api.OK, "program p st k := 1; end": api.ErrName, "program p st end program p st end": api.ErrTwice, "program p il and true; end": api.ErrKind, "program p input a bool; st a := true; end": api.ErrPlace, "program p output q int; st q := abs(); end": api.ErrCount, "block b local c b; st end": api.ErrRing, "block b local n int[32]; m int[32]; k int[32]; st end program p local c0 b; c1 b; c2 b; c3 b; c4 b; st end": api.ErrFull, "program p st end task t every t#1 priority 1 run q;": api.ErrName, "program p st end program q st exit; end": api.ErrPlace,
	} {
		expectErrors(t, read(t, source), 0, want)
	}
	good := read(t, "program p input a bool; output q bool; st q := a; end program r il end")
	for unit, want := range map[int]api.Errno{0: api.OK, 1: api.ErrPlace, 2: api.ErrArg, -1: api.ErrArg, math.MaxInt: api.ErrArg, math.MinInt: api.ErrArg} {
		expectErrors(t, good, unit, want)
	}
	// The error of the project comes first.
	expectErrors(t, read(t, "program p st k := 1; end"), 5, api.ErrName)
	expectErrors(t, api.Project{}, 0, api.ErrArg)
	for _, p := range of(api.Project{Units: of(api.Unit{})}, api.Project{Units: make([]api.Unit, 100)}, api.Project{Units: of(api.Unit{Kind: api.UProgram, Name: "p", Body: api.Body{Lang: 6}})}, api.Project{Tasks: of(api.Task{})}) {
		expectErrors(t, p, -1, api.ErrArg)
		if is, err := lower.IsLow(p); is || err != api.ErrArg {
			t.Errorf("IsLow(%v) = %v, %d", p, is, err)
		}
	}
	// Nothing that can be a list, a ladder or a diagram is in another language.
	for _, source := range of("program p il end", "program p ld end", "program p fbd end", "program p sfc initial step s; end", "program p input a bool; output q bool; il ld a; st q; end") {
		expectErrors(t, read(t, source), 0, api.ErrPlace)
	}
}

// expectErrors checks what all functions say of a unit of a project: of one that is in another language they say that it can be no
// ladder and no diagram.
func expectErrors(t *testing.T, p api.Project, unit int, want api.Errno) {
	t.Helper()
	for _, into := range targets() {
		if q, err := into.make(p, unit); err != want || err != api.OK && len(q.Units)+len(q.Tasks) > 0 {
			t.Errorf("%s\n%s of unit %d: %v, %d; want %d", text(p), into.name, unit, q, err, want)
		}
	}
	can := want == api.OK
	if want == api.ErrPlace && unit >= 0 && unit < len(p.Units) && p.Units[unit].Body.Lang != api.InText {
		want = api.OK
	}
	is, e1 := lower.CanLadder(p, unit)
	other, e2 := lower.CanDiagram(p, unit)
	if e1 != want || e2 != want || is != can || other != can {
		t.Errorf("%s\nunit %d: CanLadder %v, %d, CanDiagram %v, %d; want %v, %d", text(p), unit, is, e1, other, e2, can, want)
	}
	// The project itself has no error if only the unit is wrong.
	if want == api.ErrArg {
		return
	}
	q, e3 := lower.Lower(p)
	if is, e4 := lower.IsLow(p); e3 != want || e4 != want || want != api.OK && (len(q.Units)+len(q.Tasks) > 0 || is) {
		t.Errorf("%s\nLower: %v, %d; IsLow: %v, %d; want %d", text(p), q, e3, is, e4, want)
	}
}
