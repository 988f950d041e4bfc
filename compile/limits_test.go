package compile_test

import (
	"fmt"
	"slices"
	"strconv"
	"strings"
	"testing"

	"winch/api"
	"winch/chart"
	"winch/compile"
	"winch/internal/samples"
)

// numbers returns the numbers from 1 to n, with commas between.
func numbers(n int) string {
	var l []string
	for i := range n {
		l = append(l, strconv.Itoa(i+1))
	}
	return strings.Join(l, ", ")
}

// nested returns a text in others: each one has %s for the next one.
func nested(inner string, around ...string) string {
	for i := len(around) - 1; i >= 0; i-- {
		inner = strings.Replace(around[i], "%s", inner, 1)
	}
	return inner
}

// deep returns an expression of calls in each other, whose last argument is the next one.
func deep(n int) string {
	return nested("n", slices.Repeat(of("f(n, n, n, %s)"), n-1)...)
}

// largest are projects that are as large as P16.1 lets them be, in one way or another.
func largest() []string {
	f := "function f : int input a int; b int; c int; d int; st f := a + b * c - d; end "
	b := "block bb input a int; b int; c int; d int; e int; f int; g int; h int; output q bool; n int; st n := a - b + c - d + e - f + g - h; q := n > 0; end "
	loops := of("for i := m to n do %s end_for;", "for m := n to i by -1 do %s end_for;")
	var l []string
	for n := range 8 {
		var around []string
		for i := range n {
			around = append(around, loops[i%2])
		}
		l = append(l, f+b+"program p input n int; output m int; i int; local x bb; st "+nested("m := "+deep(max(1, 9-n))+"; if m > 5 then return; end_if;", around...)+" end")
	}
	labels := f + "program p input n int; output m int; st case n of " + numbers(100) + ": m := 1; end_case; end"
	many := "program p input n int; output m int; st case n of "
	for i := range 25 {
		many += fmt.Sprintf("%d, %d, %d, %d: m := %d; ", 4*i, 4*i+1, 4*i+2, 4*i+3, i)
	}
	calls := "x(a := " + deep(8) + ", b := n, c := m, d := n, e := n, f := n, g := n, h := " + deep(8) + ");"
	numbered := "1: not(a); "
	for i := 2; i <= 20; i++ {
		numbered += fmt.Sprintf("%d: not(:%d); ", i, i-1)
	}
	all := ""
	for i := 1; i < 20; i += 2 {
		all += fmt.Sprintf("0: and(:%d, :%d); ", i, i+1)
	}
	return append(l, labels, many+"end_case; end", f+b+"program p input n int; output m int; local x bb; st "+calls+" m := x.n; end",
		// Results of 20 nodes that are all kept, with the deepest expressions, in a block with 8 inputs.
		f+b+"program p input a bool; n int; output q bool; local x bb; fbd "+numbered+"0: x(a := n, b := n, c := n, d := n, e := n, f := n, g := n, h := "+deep(3)+").q; "+all+"end",
		f+"program p input a bool; n int; output q bool; m int; fbd "+numbered+"m := "+deep(9)+"; "+all+"q := :20; end",
		f+"program p input a bool; b bool; n int; output q bool; local t rtrig; ld rung: "+nested("[f(n, n, n, n) > n]", "a & (b | +a & %s)", "b | a & (-b | %s)", "box t(clk).q & (%s | a)")+" -> q, +q, -q, /q, set q, reset q; end",
		f+"program p input a bool; n int; output m int; il ld n; add( ; ld n; mul( ; ld n; sub( ; ld n; add( ; ld n; add( ; ld n; add( ; ld n; add( ; ld n; add( ; ld n; add( ; ld n; add( ; ld n; add "+deep(9)+"; ); ); ); ); ); ); ); ); ); ); st m; end",
		"program p input a bool; n int; output q bool; r bool; m int; sfc initial step s0 do while q do delay t#5 (m := m + 1;); step s1 do limit_ t#9 r; step s2 do enter q; step s3 do leave r; step s4 do set q; step s5 do reset q; from s0, s1, s2, s3, s4, s5 to s0, s1, s2, s3, s4, s5 when a; from s0 to s1, s2, s3, s4, s5 when n > 1; from s1, s2, s3 to s0, s4, s5 when n > 2; from s4, s5 to s1, s2 when n > 3; from s0, s1, s2, s3 to s4 when n > 4; from s5 to s0, s1, s2, s3, s4, s5 when not a; end",
		f+"program p input n int; output m int; i int; sfc initial step s0 do while ("+nested("m := "+deep(7)+";", loops...)+"); step s1 macro k; from s0 to s1 when "+deep(5)+" > n; from s1 to s0 when m > n; from s0 to s0 when "+deep(3)+" = n; macro k(u, v) step u do enter ("+nested("m := n; exit;", loops...)+"); step v do leave (m := 0;); from u to v when true; from v to u when m < n; from v to v when n = 7; end; end",
		"program p input a bool; output q bool; r bool; ld "+strings.Repeat("rung: +a -> -r, /q; rung: a -> q; ", 15)+"end", "program p input a bool; n int; output q bool; m int; il "+strings.Repeat("ld n; add 1; st m; gt 5; set q; ", 15)+"end",
		"program p input a bool; n int; output m int; i int; st "+nested(strings.Repeat("return; ", 70), loops[0], loops[1], loops[0], loops[1], loops[0], loops[1], loops[0], "if n > 5 then %s end_if;")+" end",
	)
}

// size is how many nodes a body has, and how deep they are.
type size struct{ nodes, depth int }

func (s *size) expr(e api.Expr, depth int) {
	s.nodes++
	s.depth = max(s.depth, depth)
	for _, x := range e.Args {
		s.expr(x, depth+1)
	}
}

func (s *size) exprs(l []api.Expr, depth int) {
	for _, e := range l {
		s.expr(e, depth)
	}
}

func (s *size) stmts(l []api.Stmt, depth int) {
	for _, x := range l {
		s.nodes++
		s.depth = max(s.depth, depth)
		s.exprs(x.Index, depth+1)
		s.exprs(x.Args, depth+1)
		s.stmts(x.Body, depth+1)
		s.stmts(x.Other, depth+1)
		for _, a := range x.Arms {
			s.nodes++
			s.exprs(a.If, depth+2)
			s.stmts(a.Body, depth+2)
		}
	}
}

func (s *size) power(p api.Power, depth int) {
	s.nodes++
	s.depth = max(s.depth, depth)
	s.exprs(p.Arg, depth+1)
	s.exprs(p.Args, depth+1)
	for _, part := range p.Parts {
		s.power(part, depth+1)
	}
}

func (s *size) chart(c api.Chart) {
	s.nodes += len(c.Steps) + len(c.Trans) + len(c.Inner)
	for _, x := range c.Steps {
		for _, a := range x.Actions {
			s.nodes++
			s.stmts(a.Body, 1)
		}
	}
	for _, x := range c.Trans {
		s.expr(x.When, 1)
	}
	for _, m := range c.Inner {
		s.chart(m)
	}
}

func sizeOf(b api.Body) size {
	var s size
	s.stmts(b.Text, 1)
	for _, x := range b.List {
		s.nodes++
		s.exprs(x.Arg, 1)
	}
	for _, x := range b.Rungs {
		s.nodes += 1 + len(x.Coils)
		s.power(x.Power, 1)
	}
	for _, x := range b.Nodes {
		s.nodes += 1 + len(x.Pins)
		for _, p := range x.Pins {
			s.exprs(p.Arg, 1)
		}
	}
	s.chart(b.Chart)
	return s
}

// labels returns how many labels of arms there are in statements.
func labels(l []api.Stmt) int {
	n := 0
	for _, x := range l {
		n += labels(x.Body) + labels(x.Other)
		for _, a := range x.Arms {
			n += len(a.Labels) + labels(a.Body)
		}
	}
	return n
}

// isSmall reports whether P16.1 promises that a project has a code.
func isSmall(p api.Project) bool {
	for _, u := range p.Units {
		s := sizeOf(u.Body)
		numbered, inputs := 0, 0
		for _, x := range u.Body.Nodes {
			if x.Number != 0 {
				numbered++
			}
		}
		for _, v := range u.Vars {
			if v.Class == api.VInput {
				inputs++
			}
		}
		flat, _ := chart.Flatten(u.Body.Chart)
		if s.nodes > 120 || s.depth > 10 || labels(u.Body.Text) > 100 || numbered > 20 || len(flat.Steps) > 6 || len(flat.Trans) > 6 {
			return false
		}
		if u.Kind == api.UFunction && inputs > 4 || u.Kind == api.UBlock && inputs > 8 {
			return false
		}
	}
	return true
}

// TestLargest compiles projects that are as large as they may be.
func TestLargest(t *testing.T) {
	t.Parallel()
	r := newRunner(11)
	for _, source := range largest() {
		p := read(t, source)
		if !isSmall(p) {
			for _, u := range p.Units {
				t.Errorf("%s has %v, and %d labels", u.Name, sizeOf(u.Body), labels(u.Body.Text))
			}
			t.Errorf("%.1000s\nis too large", text(p))
			continue
		}
		r.agree(t, p, 20)
	}
	r.expectFound(t, 1500, 100, 0, 0)
}

// TestSmall compiles random projects of which P16.1 promises that they have a code.
func TestSmall(t *testing.T) {
	t.Parallel()
	r := newRunner(12)
	found := map[int]int{}
	for found[api.InText] < 100 || found[api.InList] < 100 || found[api.InLadder] < 100 || found[api.InDiagram] < 100 || found[api.InChart] < 100 {
		r.Size, r.Depth = 2+r.Choose(15), 1+r.Choose(7)
		r.Languages = of("st", "il", "ld", "fbd", "sfc")[r.Choose(5)]
		p, _ := r.Project()
		if !isSmall(p) {
			continue
		}
		r.agree(t, p, 1)
		for _, u := range p.Units {
			found[u.Body.Lang]++
		}
	}
}

// TestLarger compiles what is larger than P16.1 asks for, and has a code all the same.
func TestLarger(t *testing.T) {
	t.Parallel()
	r := newRunner(13)
	steps, transitions := "initial step s0; ", ""
	for i := 1; i < 30; i++ {
		steps += fmt.Sprintf("step s%d do while q%d; ", i, i%3)
		transitions += fmt.Sprintf("from s%d to s%d when a; ", i-1, i)
	}
	inputs, args := "", "n"
	for i := range 31 {
		inputs += fmt.Sprintf("a%d int; ", i)
		args += ", n"
	}
	chain := "1: add(n, 1); "
	for i := 2; i <= 110; i++ {
		chain += fmt.Sprintf("%d: add(:%d, %d); ", i, i-1, i)
	}
	for _, source := range of(
		// Results that nothing takes any more do not remain on the stack.
		"program p input n int; output m int; fbd "+chain+"m := :110; end", "program p input n int; output m int; fbd "+strings.Repeat("0: div(5, n); ", 80)+"m := n; end", "program p input n int; output m int; local c ctu; fbd "+strings.Repeat("0: c(pv := n).cv; ", 80)+"m := n; end",
		"program p input a bool; output q0 bool; q1 bool; q2 bool; sfc "+steps+transitions+"from s29 to s0 when a; end",
		"function f : int input z int; "+inputs+"st f := z + a30; end program p input n int; output m int; st m := f("+args+"); end",
		"program p input n int; output m int; st case n of "+numbers(700)+": m := 1; end_case; end",
		"program p input a bool; output q bool; st "+strings.Repeat("q := a; ", 240)+"end",
		"program p input n int; output m int; i int; st "+nested(strings.Repeat("return; ", 400), slices.Repeat(of("for i := m to n do %s end_for;"), 12)...)+" end",
	) {
		r.agree(t, read(t, source), 30)
	}
	// The projects of random bodies that are as large as they can be need not have a code, but most of them do.
	count, full := 0, 0
	for range 60 {
		m := samples.New(r.Choose)
		m.Size, m.Depth = 60, 4
		p, _ := m.Project()
		count++
		if _, err := compile.Compile(p); err == api.ErrFull {
			full++
			continue
		}
		r.agree(t, p, 1)
	}
	if full > count/4 {
		t.Errorf("%d of %d have no code", full, count)
	}
}
