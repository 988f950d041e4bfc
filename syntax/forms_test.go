package syntax_test

import (
	"math"
	"math/rand"
	"reflect"
	"slices"
	"strings"
	"testing"

	"winch/api"
	"winch/syntax"
)

func TestNodes(t *testing.T) {
	for _, x := range []struct {
		source       string
		nodes, depth int
	}{
		{"", 0, 0}, {"exit;", 1, 1}, {"f();", 1, 1}, {"x := 1 + 2 * 3;", 6, 4}, {"x[i] := a;", 3, 2}, {"x[f(i)] := a;", 4, 3},
		{"t1(in := a, pt := t#500);", 3, 2}, {"if a then end_if;", 2, 2}, {"if a then exit; end_if;", 3, 2},
		{"if a then elsif b then end_if;", 4, 3}, {"if a then elsif b then exit; else return; end_if;", 6, 3},
		{"case a of 1, 2, 3: end_case;", 3, 2}, {"case a of 1: x := a; end_case;", 5, 4}, {"case a of else x := a; end_case;", 4, 3},
		{"for i := 1 to 2 by 3 do exit; end_for;", 4, 2}, {"while a do while b do end_while; end_while;", 4, 3}, {"repeat until (((a))) end_repeat;", 2, 2},
		{"x := f(a, g(), b[c.q]);", 6, 4}, {"exit; exit; x := - - 1;", 6, 4},
	} {
		l, _, e := syntax.Text(x.source)
		if n, d, f := syntax.Nodes(l); e != api.OK || f != api.OK || n != x.nodes || d != x.depth {
			t.Errorf("Nodes of %q: %d, %d, %d; want %d, %d", x.source, n, d, f, x.nodes, x.depth)
		}
	}
}

// expectForm checks what is said of statements by Check and Nodes, alone and inside of each kind of list.
func expectForm(t *testing.T, s api.Stmt, fits bool) {
	t.Helper()
	a := list(name("a"))
	l := list(s)
	for i, outer := range [][]api.Stmt{
		l, {{Op: api.SExit}, s}, {{Op: api.SIf, Args: a, Body: l}}, {{Op: api.SIf, Args: a, Else: true, Other: l}},
		{{Op: api.SIf, Args: a, Arms: list(api.Arm{If: a, Body: l})}}, {{Op: api.SCase, Args: a, Arms: list(api.Arm{Labels: list(1), Body: l})}},
		{{Op: api.SRepeat, Args: a, Body: l}},
	} {
		n, d, e := syntax.Nodes(outer)
		if (syntax.Check(outer) == api.OK) != fits || (e == api.OK) != fits {
			t.Errorf("Check(%v) = %d, Nodes %d; in the list %d", s, syntax.Check(outer), e, i)
		}
		if !fits && (syntax.Check(outer) != api.ErrArg || n != 0 || d != 0 || e != api.ErrArg) {
			t.Errorf("Nodes(%v) = %d, %d, %d", s, n, d, e)
		}
	}
}

func goodStatements() []api.Stmt {
	a, b := name("a"), name("b")
	one := list(set("x", number(1)))
	return []api.Stmt{
		set("x", a),
		{Op: api.SSet, Name: "x", Index: list(a), Args: list(b)},
		{Op: api.SCall, Name: "x"},
		{Op: api.SCall, Name: "x", Fields: list("c", "c"), Args: list(a, b)},
		{Op: api.SIf, Args: list(a), Body: one, Arms: list(api.Arm{If: list(b), Body: one}), Other: one, Else: true},
		{Op: api.SIf, Args: list(a)},
		{Op: api.SCase, Args: list(a), Arms: list(api.Arm{Labels: list(1, 1, -math.MaxInt32, math.MaxInt32), Body: one}), Else: true},
		{Op: api.SCase, Args: list(a)},
		{Op: api.SFor, Name: "x", Args: list(a, b), N: -math.MaxInt32, Body: one},
		{Op: api.SFor, Name: "x", Args: list(a, b), N: math.MaxInt32},
		{Op: api.SWhile, Args: list(a), Body: one},
		{Op: api.SRepeat, Args: list(a), Body: one},
		{Op: api.SExit},
		{Op: api.SReturn},
	}
}

func TestFormsOfStatements(t *testing.T) {
	for _, s := range goodStatements() {
		expectForm(t, s, true)
		// An empty list is as good as none.
		full := s
		for _, p := range []*[]api.Stmt{&full.Body, &full.Other} {
			*p = append([]api.Stmt{}, *p...)
		}
		full.Index, full.Args = append([]api.Expr{}, s.Index...), append([]api.Expr{}, s.Args...)
		full.Fields, full.Arms = append([]string{}, s.Fields...), append([]api.Arm{}, s.Arms...)
		expectForm(t, full, true)
	}
}

// changes are changes of single fields of a statement, each of which may or may not fit.
func changes() map[string]func(*api.Stmt) {
	a := name("a")
	return map[string]func(*api.Stmt){
		"name": func(s *api.Stmt) { s.Name += "x" }, "index": func(s *api.Stmt) { s.Index = append(slices.Clone(s.Index), a) },
		"fields": func(s *api.Stmt) { s.Fields = append(slices.Clone(s.Fields), "q") }, "args": func(s *api.Stmt) { s.Args = append(slices.Clone(s.Args), a) },
		"none": func(s *api.Stmt) { s.Args = nil }, "n": func(s *api.Stmt) { s.N += 2 }, "body": func(s *api.Stmt) { s.Body = append(slices.Clone(s.Body), set("y", a)) },
		"if": func(s *api.Stmt) { s.Arms = append(slices.Clone(s.Arms), api.Arm{If: list(a)}) }, "label": func(s *api.Stmt) { s.Arms = append(slices.Clone(s.Arms), api.Arm{Labels: list(1)}) },
		"other": func(s *api.Stmt) { s.Other = append(slices.Clone(s.Other), set("y", a)) }, "else": func(s *api.Stmt) { s.Else = !s.Else },
	}
}

func TestFieldsOfStatements(t *testing.T) {
	fits := map[int]string{
		api.SSet: " name ", api.SCall: " name ", api.SIf: " body if else other ", api.SCase: " label else other ", api.SFor: " name n body ",
		api.SWhile: " body ", api.SRepeat: " body ", api.SExit: " none ", api.SReturn: " none ",
	}
	for i, s := range goodStatements() {
		for what, change := range changes() {
			x := s
			change(&x)
			can := strings.Contains(fits[s.Op], " "+what+" ")
			switch {
			case what == "index":
				can = s.Op == api.SSet && len(s.Index) == 0
			case what == "none":
				can = can || len(s.Args) == 0
			case what == "else":
				can = can && len(s.Other) == 0
			case what == "other":
				can = can && s.Else
			case what == "n":
				can = can && s.N+2 <= math.MaxInt32
			}
			if expectForm(t, x, can); t.Failed() {
				t.Fatalf("statement %d with another %s", i, what)
			}
		}
	}
}

func TestWrongStatements(t *testing.T) {
	a := list(name("a"))
	bad := name("if")
	for _, s := range []api.Stmt{
		{}, {Op: -1}, {Op: 10}, {Op: math.MinInt}, {Op: math.MaxInt, Args: a},
		{Op: api.SSet, Args: a}, set("if", a[0]), set("A", a[0]), set("thirteen_byte", a[0]), set("x", bad), set("x", api.Expr{}),
		{Op: api.SSet, Name: "x", Index: list(bad), Args: a}, {Op: api.SSet, Name: "x", Index: list(a[0], a[0]), Args: a},
		{Op: api.SCall, Args: a, Fields: list("q")}, {Op: api.SCall, Name: "f", Args: a}, {Op: api.SCall, Name: "f", Fields: list("q")},
		{Op: api.SCall, Name: "f", Fields: list("end"), Args: a}, {Op: api.SCall, Name: "f", Fields: list("q", ""), Args: list(a[0], a[0])},
		{Op: api.SCall, Name: "f", Fields: list("q"), Args: list(bad)},
		{Op: api.SIf, Args: a, Other: list(api.Stmt{Op: api.SExit})}, {Op: api.SCase, Args: a, Other: list(api.Stmt{Op: api.SExit})},
		{Op: api.SIf, Args: a, Body: list(api.Stmt{})}, {Op: api.SIf, Args: a, Else: true, Other: list(api.Stmt{})},
		{Op: api.SIf, Args: a, Arms: list(api.Arm{})}, {Op: api.SIf, Args: a, Arms: list(api.Arm{If: list(bad)})},
		{Op: api.SIf, Args: a, Arms: list(api.Arm{If: a, Labels: list(1)})}, {Op: api.SIf, Args: a, Arms: list(api.Arm{If: list(a[0], a[0])})},
		{Op: api.SIf, Args: a, Arms: list(api.Arm{If: a, Body: list(api.Stmt{})})}, {Op: api.SIf, Args: a, Arms: list(api.Arm{Labels: list(1)})},
		{Op: api.SCase, Args: a, Arms: list(api.Arm{})}, {Op: api.SCase, Args: a, Arms: list(api.Arm{If: a})},
		{Op: api.SCase, Args: a, Arms: list(api.Arm{If: a, Labels: list(1)})}, {Op: api.SCase, Args: a, Arms: list(api.Arm{Labels: list(1, math.MaxInt32+1)})},
		{Op: api.SCase, Args: a, Arms: list(api.Arm{Labels: list(math.MinInt32)})}, {Op: api.SCase, Args: a, Arms: list(api.Arm{Labels: list(math.MinInt)})},
		{Op: api.SCase, Args: a, Arms: list(api.Arm{Labels: list(1), Body: list(api.Stmt{})})},
		{Op: api.SFor, Name: "i", Args: list(a[0], a[0])}, {Op: api.SFor, Name: "i", Args: list(a[0], a[0]), N: math.MinInt32},
		{Op: api.SFor, Name: "i", Args: list(a[0], a[0]), N: math.MaxInt32 + 1}, {Op: api.SFor, Args: list(a[0], a[0]), N: 1},
		{Op: api.SFor, Name: "i", Args: list(a[0], bad), N: 1}, {Op: api.SFor, Name: "i", Args: list(a[0], a[0]), N: 1, Body: list(api.Stmt{})},
		{Op: api.SWhile, Args: list(bad)}, {Op: api.SRepeat, Args: a, Body: list(api.Stmt{})},
	} {
		expectForm(t, s, false)
	}
}

func TestWrongExpressions(t *testing.T) {
	a := name("a")
	for _, e := range []api.Expr{
		{}, {Op: -1}, {Op: 22, Args: list(a, a)}, {Op: math.MaxInt}, {Op: math.MinInt},
		{Op: api.EConst}, {Op: api.EConst, Kind: api.KBlock}, {Op: api.EConst, Kind: 5}, truth(2), truth(-1), number(-1), number(math.MinInt), number(math.MaxInt32 + 1),
		time(-1), time(math.MaxInt32 + 1), time(math.MaxInt), {Op: api.EConst, Kind: api.KInt, S: "a"}, {Op: api.EConst, Kind: api.KInt, Field: "a"},
		{Op: api.EConst, Kind: api.KInt, Args: list(a)}, name(""), name("if"), name("1"), name("A"), name("a b"), name("thirteen_byte"), {Op: api.EName, S: "a", Kind: api.KInt},
		{Op: api.EName, S: "a", N: 1}, {Op: api.EName, S: "a", Field: "q"}, {Op: api.EName, S: "a", Args: list(a)},
		{Op: api.EField, S: "a"}, {Op: api.EField, Field: "a"}, {Op: api.EField, S: "a", Field: "end"}, {Op: api.EField, S: "a", Field: "q", Args: list(a)},
		{Op: api.EField, S: "a", Field: "q", N: 1}, {Op: api.EField, S: "a", Field: "q", Kind: 1}, {Op: api.EIndex, S: "a"}, {Op: api.EIndex, S: "a", Args: list(a, a)},
		{Op: api.EIndex, Args: list(a)}, {Op: api.EIndex, S: "a", Field: "q", Args: list(a)}, {Op: api.EIndex, S: "a", N: 1, Args: list(a)}, {Op: api.EIndex, S: "a", Args: list(api.Expr{})},
		{Op: api.ECall}, {Op: api.ECall, S: "if"}, {Op: api.ECall, S: "f", Field: "q"}, {Op: api.ECall, S: "f", N: 1}, {Op: api.ECall, S: "f", Args: list(a, api.Expr{})},
		apply(api.ENot), apply(api.ENot, a, a), apply(api.ENeg), apply(api.ENeg, a, a), {Op: api.ENot, S: "a", Args: list(a)}, {Op: api.ENeg, N: 1, Args: list(a)},
		{Op: api.ENot, Field: "a", Args: list(a)}, {Op: api.ENot, Kind: api.KBool, Args: list(a)}, apply(api.ENot, api.Expr{}),
		apply(api.EOr), apply(api.EOr, a), apply(api.EMod, a, a, a), {Op: api.EAdd, S: "a", Args: list(a, a)}, {Op: api.EAdd, Field: "a", Args: list(a, a)},
		{Op: api.EAdd, N: 1, Args: list(a, a)}, {Op: api.EAdd, Kind: 2, Args: list(a, a)}, apply(api.EAdd, a, api.Expr{}), apply(api.EAdd, api.Expr{}, a),
	} {
		for _, x := range []api.Expr{e, apply(api.ENot, e), apply(api.EAdd, a, e), {Op: api.ECall, S: "f", Args: list(e)}} {
			if got := syntax.CheckExpr(x); got != api.ErrArg {
				t.Errorf("CheckExpr(%v) = %d", x, got)
			}
		}
		expectForm(t, set("x", e), false)
	}
}

func deep(n int) api.Expr {
	e := name("a")
	for range n - 1 {
		e = apply(api.ENeg, e)
	}
	return e
}

func TestLimitsOfForms(t *testing.T) {
	for _, x := range []struct {
		n    int
		want api.Errno
	}{{1, api.OK}, {14, api.OK}, {15, api.ErrArg}, {60000, api.ErrArg}} {
		if e := syntax.CheckExpr(deep(x.n)); e != x.want {
			t.Errorf("CheckExpr of the depth %d: %d", x.n, e)
		}
		inside := list(set("x", deep(max(x.n-1, 1))))
		if e := syntax.Check(inside); e != x.want {
			t.Errorf("Check of the depth %d: %d", x.n, e)
		}
		call := api.Expr{Op: api.ECall, S: "f", Args: slices.Repeat(list(name("a")), 498+min(x.n, 15)/15)}
		if e := syntax.Check(list(set("x", call))); e != x.want {
			t.Errorf("Check of %d nodes: %d", len(call.Args)+2, e)
		}
	}
	exits := slices.Repeat(list(api.Stmt{Op: api.SExit}), 501)
	if n, d, e := syntax.Nodes(exits[:500]); n != 500 || d != 1 || e != api.OK {
		t.Errorf("500 statements: %d, %d, %d", n, d, e)
	}
	if n, d, e := syntax.Nodes(exits); n != 0 || d != 0 || e != api.ErrArg {
		t.Errorf("501 statements: %d, %d, %d", n, d, e)
	}
	// Labels are no nodes.
	labels := list(api.Stmt{Op: api.SCase, Args: list(name("a")), Arms: list(api.Arm{Labels: slices.Repeat(list(-7), 100000)})})
	if n, d, e := syntax.Nodes(labels); n != 3 || d != 2 || e != api.OK {
		t.Errorf("many labels: %d, %d, %d", n, d, e)
	}
}

// TestNestedWithoutEnd has statements and expressions that contain themselves.
func TestNestedWithoutEnd(t *testing.T) {
	e := apply(api.EAdd, name("a"), name("a"))
	e.Args[0], e.Args[1] = e, e
	s := api.Stmt{Op: api.SWhile, Args: list(name("a")), Body: make([]api.Stmt, 2)}
	s.Body[0], s.Body[1] = s, s
	c := api.Stmt{Op: api.SCase, Args: list(name("a")), Arms: list(api.Arm{Labels: list(1)})}
	c.Arms[0].Body = list(c)
	c.Arms[0].Body[0] = c
	if syntax.CheckExpr(e) != api.ErrArg || syntax.Check(list(s)) != api.ErrArg || syntax.Check(list(c)) != api.ErrArg || syntax.Check(list(set("x", e))) != api.ErrArg {
		t.Error("what contains itself is not well formed")
	}
}

func TestSame(t *testing.T) {
	l := append(goodStatements(), api.Stmt{}, api.Stmt{Op: -5, Name: "?", N: math.MinInt})
	for i, a := range l {
		for j, b := range l {
			if syntax.Same(list(a), list(b)) != (i == j) {
				t.Errorf("Same(%v, %v)", a, b)
			}
		}
		for what, change := range changes() {
			b := a
			change(&b)
			same := reflect.DeepEqual(a, b)
			if syntax.Same(list(a), list(b)) != same || syntax.Same(list(b), list(a)) != same || !syntax.Same(list(b), list(b)) {
				t.Errorf("Same(%v) with another %s", a, what)
			}
			c, d := api.Stmt{Arms: list(api.Arm{Body: list(a)})}, api.Stmt{Arms: list(api.Arm{Body: list(b)})}
			e, f := api.Stmt{Other: list(a)}, api.Stmt{Other: list(b)}
			if syntax.Same(list(c), list(d)) != same || syntax.Same(list(e), list(f)) != same {
				t.Errorf("Same(%v) with another %s further inside", a, what)
			}
		}
	}
	if !syntax.Same(nil, nil) || !syntax.Same(nil, []api.Stmt{}) || syntax.Same(nil, l) || syntax.Same(l, nil) || syntax.Same(l, l[1:]) {
		t.Error("Same of nothing")
	}
	empty := api.Stmt{Index: []api.Expr{}, Fields: []string{}, Args: []api.Expr{}, Body: []api.Stmt{}, Arms: []api.Arm{}, Other: []api.Stmt{}}
	if !syntax.Same(list(empty), list(api.Stmt{})) {
		t.Error("an empty list is equal to nil")
	}
	arm := api.Arm{If: []api.Expr{}, Labels: []int{}, Body: []api.Stmt{}}
	for i, x := range []api.Arm{{}, {If: list(name("a"))}, {Labels: list(1)}, {Labels: list(1, 2)}, {Body: l}} {
		if syntax.Same(list(api.Stmt{Arms: list(arm)}), list(api.Stmt{Arms: list(x)})) != (i == 0) {
			t.Errorf("Same of the arm %v", x)
		}
	}
}

func TestSameExpr(t *testing.T) {
	a := name("a")
	l := []api.Expr{{}, {Op: 1}, {Op: -1}, {Kind: 1}, {N: 1}, {N: math.MinInt}, {S: "a"}, {Field: "a"}, {Args: list(a)}, {Args: list(a, a)}, {Args: list(name("b"))},
		{Args: list(api.Expr{Args: list(a)})}, {Args: list(api.Expr{})}}
	for i, x := range l {
		for j, y := range l {
			if syntax.SameExpr(x, y) != (i == j) {
				t.Errorf("SameExpr(%v, %v)", x, y)
			}
		}
	}
	if !syntax.SameExpr(api.Expr{}, api.Expr{Args: []api.Expr{}}) || !syntax.SameExpr(deep(60000), deep(60000)) || syntax.SameExpr(deep(60000), deep(60001)) {
		t.Error("SameExpr of empty and of deep ones")
	}
}

// TestFormsOfChangedExpressions takes random expressions, changes one field somewhere, and expects that only those are well formed that can be read.
func TestFormsOfChangedExpressions(t *testing.T) {
	r := rand.New(rand.NewSource(7))
	for range 5000 {
		e := randomExpr(r, 1+r.Intn(4))
		p := &e
		for len(p.Args) > 0 && r.Intn(2) == 0 {
			p = &p.Args[r.Intn(len(p.Args))]
		}
		switch r.Intn(6) {
		case 0:
			p.Op = r.Intn(25) - 1
		case 1:
			p.Kind = r.Intn(6) - 1
		case 2:
			p.N = r.Intn(4) - 1
		case 3:
			p.S = []string{"", "a", "if", "t#1", "A"}[r.Intn(5)]
		case 4:
			p.Field = []string{"", "a", "or", "1"}[r.Intn(4)]
		case 5:
			p.Args = p.Args[:r.Intn(len(p.Args)+1)]
		}
		if got := syntax.CheckExpr(e) == api.OK; got != canBeWritten(e) {
			t.Fatalf("CheckExpr(%v): %v", e, got)
		}
	}
}

// canBeWritten reports whether reading what write makes of an expression gives it again.
func canBeWritten(e api.Expr) (can bool) {
	defer func() {
		if recover() != nil {
			can = false
		}
	}()
	got, _, err := syntax.Expr(write(e))
	return err == api.OK && syntax.SameExpr(got, e)
}
