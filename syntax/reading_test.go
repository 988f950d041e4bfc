package syntax_test

import (
	"math/rand"
	"reflect"
	"strconv"
	"strings"
	"testing"

	"winch/api"
	"winch/lexis"
	"winch/syntax"
)

func number(n int) api.Expr { return api.Expr{Op: api.EConst, Kind: api.KInt, N: n} }

func time(n int) api.Expr { return api.Expr{Op: api.EConst, Kind: api.KTime, N: n} }

func truth(n int) api.Expr { return api.Expr{Op: api.EConst, Kind: api.KBool, N: n} }

func name(s string) api.Expr { return api.Expr{Op: api.EName, S: s} }

func apply(op int, args ...api.Expr) api.Expr { return api.Expr{Op: op, Args: args} }

func list[T any](l ...T) []T { return l }

func set(s string, e api.Expr) api.Stmt { return api.Stmt{Op: api.SSet, Name: s, Args: list(e)} }

func TestExpressions(t *testing.T) {
	for _, x := range []struct {
		source string
		want   api.Expr
	}{
		{"0", number(0)}, {"2147483647", number(2147483647)}, {"t#0", time(0)}, {"t#2147483647", time(2147483647)},
		{"true", truth(1)}, {"false", truth(0)}, {"a", name("a")}, {" ( ((a)) ) // a\n", name("a")},
		{"a.q", api.Expr{Op: api.EField, S: "a", Field: "q"}},
		{"a[i + 1]", api.Expr{Op: api.EIndex, S: "a", Args: list(apply(api.EAdd, name("i"), number(1)))}},
		{"f()", api.Expr{Op: api.ECall, S: "f"}},
		{"f(1)", api.Expr{Op: api.ECall, S: "f", Args: list(number(1))}},
		{"f(1, a.q, g(t#2))", api.Expr{Op: api.ECall, S: "f", Args: list(number(1), api.Expr{Op: api.EField, S: "a", Field: "q"},
			api.Expr{Op: api.ECall, S: "g", Args: list(time(2))})}},
		{"not a", apply(api.ENot, name("a"))}, {"-1", apply(api.ENeg, number(1))}, {"- -a", apply(api.ENeg, apply(api.ENeg, name("a")))},
		{"not -not a", apply(api.ENot, apply(api.ENeg, apply(api.ENot, name("a"))))},
		{"not a and b", apply(api.EAnd, apply(api.ENot, name("a")), name("b"))},
		{"-a * b", apply(api.EMul, apply(api.ENeg, name("a")), name("b"))},
		{"not (a and b)", apply(api.ENot, apply(api.EAnd, name("a"), name("b")))},
		{"a - -b", apply(api.ESub, name("a"), apply(api.ENeg, name("b")))},
		{"not a or b and c = 1", apply(api.EOr, apply(api.ENot, name("a")), apply(api.EAnd, name("b"), apply(api.EEq, name("c"), number(1))))},
		{"a - (b - c)", apply(api.ESub, name("a"), apply(api.ESub, name("b"), name("c")))},
	} {
		e, at, err := syntax.Expr(x.source)
		if err != api.OK || at != 0 || !reflect.DeepEqual(e, x.want) {
			t.Errorf("Expr(%q) = %v, %d, %d", x.source, e, at, err)
		}
		if syntax.CheckExpr(e) != api.OK {
			t.Errorf("CheckExpr of %q", x.source)
		}
	}
}

// levels has the operators of two operands, from the lowest level on.
var levels = [][]string{{"or"}, {"xor"}, {"and"}, {"=", "<>"}, {"<", "<=", ">", ">="}, {"+", "-"}, {"*", "/", "mod"}}

var operators = map[string]int{"or": api.EOr, "xor": api.EXor, "and": api.EAnd, "=": api.EEq, "<>": api.ENe, "<": api.ELt, "<=": api.ELe,
	">": api.EGt, ">=": api.EGe, "+": api.EAdd, "-": api.ESub, "*": api.EMul, "/": api.EDiv, "mod": api.EMod}

func TestGrouping(t *testing.T) {
	a, b, c := name("a"), name("b"), name("c")
	for i, low := range levels {
		for j, high := range levels {
			for _, s := range low {
				for _, u := range high {
					p, q := operators[s], operators[u]
					want := apply(q, apply(p, a, b), c)
					if j > i {
						want = apply(p, a, apply(q, b, c))
					}
					source := "a " + s + " b " + u + " c"
					if e, _, err := syntax.Expr(source); err != api.OK || !reflect.DeepEqual(e, want) {
						t.Errorf("Expr(%q) = %v, %d", source, e, err)
					}
				}
			}
		}
	}
}

// TestGroupingOfMany groups by the last operator of the lowest level, as the grammar says.
func TestGroupingOfMany(t *testing.T) {
	r := rand.New(rand.NewSource(4))
	for range 2000 {
		words := []string{"a"}
		for range r.Intn(8) {
			l := levels[r.Intn(len(levels))]
			words = append(words, l[r.Intn(len(l))], string(rune('b'+r.Intn(5))))
		}
		source := strings.Join(words, " ")
		if e, _, err := syntax.Expr(source); err != api.OK || !reflect.DeepEqual(e, grouped(words)) {
			t.Fatalf("Expr(%q) = %v, %d", source, e, err)
		}
	}
}

func grouped(words []string) api.Expr {
	for _, level := range levels {
		for i := len(words) - 2; i > 0; i -= 2 {
			for _, s := range level {
				if words[i] == s {
					return apply(operators[s], grouped(words[:i]), grouped(words[i+1:]))
				}
			}
		}
	}
	return name(words[0])
}

func TestStatements(t *testing.T) {
	one := list(set("x", number(1)))
	a, b := name("a"), name("b")
	exit := list(api.Stmt{Op: api.SExit})
	for _, x := range []struct {
		source string
		want   []api.Stmt
	}{
		{"", nil}, {" // nothing\n", nil},
		{"x := 1;", one},
		{"x[i] := a;", list(api.Stmt{Op: api.SSet, Name: "x", Index: list(name("i")), Args: list(a)})},
		{"f();", list(api.Stmt{Op: api.SCall, Name: "f"})},
		{"t1(in := a, pt := t#500);", list(api.Stmt{Op: api.SCall, Name: "t1", Fields: list("in", "pt"), Args: list(a, time(500))})},
		{"f(x := 1, x := 2);", list(api.Stmt{Op: api.SCall, Name: "f", Fields: list("x", "x"), Args: list(number(1), number(2))})},
		{"if a then end_if;", list(api.Stmt{Op: api.SIf, Args: list(a)})},
		{"if a then x := 1; else end_if;", list(api.Stmt{Op: api.SIf, Args: list(a), Body: one, Else: true})},
		{"if a then elsif b then x := 1; elsif a then else exit; end_if;", list(api.Stmt{Op: api.SIf, Args: list(a),
			Arms: list(api.Arm{If: list(b), Body: one}, api.Arm{If: list(a)}), Other: exit, Else: true})},
		{"case a of end_case;", list(api.Stmt{Op: api.SCase, Args: list(a)})},
		{"case a of else x := 1; end_case;", list(api.Stmt{Op: api.SCase, Args: list(a), Other: one, Else: true})},
		{"case a of 1, -2147483647, 2147483647, -0: x := 1; 1: end_case;", list(api.Stmt{Op: api.SCase, Args: list(a),
			Arms: list(api.Arm{Labels: list(1, -2147483647, 2147483647, 0), Body: one}, api.Arm{Labels: list(1)})})},
		{"for i := a to b do x := 1; end_for;", list(api.Stmt{Op: api.SFor, Name: "i", Args: list(a, b), N: 1, Body: one})},
		{"for i := a to b by 2147483647 do end_for;", list(api.Stmt{Op: api.SFor, Name: "i", Args: list(a, b), N: 2147483647})},
		{"for i := a to b by -2 do end_for;", list(api.Stmt{Op: api.SFor, Name: "i", Args: list(a, b), N: -2})},
		{"while a do x := 1; end_while;", list(api.Stmt{Op: api.SWhile, Args: list(a), Body: one})},
		{"repeat x := 1; until a end_repeat;", list(api.Stmt{Op: api.SRepeat, Args: list(a), Body: one})},
		{"exit; return; x := 1;", list(api.Stmt{Op: api.SExit}, api.Stmt{Op: api.SReturn}, one[0])},
	} {
		l, at, e := syntax.Text(x.source)
		if e != api.OK || at != 0 || !reflect.DeepEqual(l, x.want) {
			t.Errorf("Text(%q) = %v, %d, %d", x.source, l, at, e)
		}
		if syntax.Check(l) != api.OK {
			t.Errorf("Check of %q", x.source)
		}
	}
}

func TestTextErrors(t *testing.T) {
	for _, x := range []struct {
		source string
		at     int
		e      api.Errno
	}{
		{"if a then x := 1;", 17, api.ErrSyntax}, {"x := ;", 5, api.ErrSyntax}, {"x", 1, api.ErrSyntax}, {"x := 1", 6, api.ErrSyntax},
		{"x := 1 // ;", 11, api.ErrSyntax}, {"x[1 := 2;", 4, api.ErrSyntax}, {"x.y := 1;", 1, api.ErrSyntax}, {"1 := x;", 0, api.ErrSyntax},
		{"x[1][2] := 1;", 4, api.ErrSyntax}, {"f(1);", 2, api.ErrSyntax}, {"f(a := 1,);", 9, api.ErrSyntax}, {"f(a = 1);", 4, api.ErrSyntax},
		{"for i := 1 to 2 by 0 do end_for;", 19, api.ErrSyntax}, {"for i := 1 to 2 by -0 do end_for;", 20, api.ErrSyntax},
		{"for i := 1 to 2 by a do end_for;", 19, api.ErrSyntax}, {"for i[1] := 1 to 2 do end_for;", 5, api.ErrSyntax},
		{"case a of t#1: end_case;", 10, api.ErrSyntax}, {"case a of 1 x := 1; end_case;", 12, api.ErrSyntax}, {"case a of 1, : end_case;", 13, api.ErrSyntax},
		{"case a of x := 1; end_case;", 10, api.ErrSyntax}, {"case a of else 1: end_case;", 15, api.ErrSyntax},
		{"if a then else elsif b then end_if;", 15, api.ErrSyntax}, {"if a then else else end_if;", 15, api.ErrSyntax},
		{"end_if;", 0, api.ErrSyntax}, {";", 0, api.ErrSyntax}, {"x := 1;;", 7, api.ErrSyntax}, {"exit", 4, api.ErrSyntax}, {"return 1;", 7, api.ErrSyntax},
		{"x := a < ;", 9, api.ErrSyntax}, {"x := f(1;", 8, api.ErrSyntax}, {"x := (1;", 7, api.ErrSyntax}, {"x := a.1;", 7, api.ErrSyntax},
		{"x := a.b.c;", 8, api.ErrSyntax}, {"x := %i1;", 5, api.ErrSyntax}, {"x := limit_;", 5, api.ErrSyntax}, {"end := 1;", 0, api.ErrSyntax},
		{") ?", 2, api.ErrSyntax}, {"x := 01; )", 5, api.ErrSyntax}, {strings.Repeat(")", api.MaxSource+1), 0, api.ErrFull},
	} {
		if l, at, e := syntax.Text(x.source); e != x.e || at != x.at || len(l) != 0 {
			t.Errorf("Text(%.40q) = %v, %d, %d; want %d, %d", x.source, l, at, e, x.at, x.e)
		}
	}
	for _, x := range []struct {
		source string
		at     int
		e      api.Errno
	}{
		{"", 0, api.ErrSyntax}, {"  ", 2, api.ErrSyntax}, {"a b", 2, api.ErrSyntax}, {"a;", 1, api.ErrSyntax}, {"a +", 3, api.ErrSyntax},
		{"(a", 2, api.ErrSyntax}, {"a)", 1, api.ErrSyntax}, {"()", 1, api.ErrSyntax}, {"f(,)", 2, api.ErrSyntax}, {"f(a,)", 4, api.ErrSyntax},
		{"a[]", 2, api.ErrSyntax}, {"1.q", 1, api.ErrSyntax}, {"a(1)(2)", 4, api.ErrSyntax}, {"a := 1", 2, api.ErrSyntax}, {"a not b", 2, api.ErrSyntax},
		{"+1", 0, api.ErrSyntax}, {"a ) ?", 4, api.ErrSyntax}, {"a -> b", 2, api.ErrSyntax}, {"a & b", 2, api.ErrSyntax},
		{strings.Repeat("a", api.MaxSource+1), 0, api.ErrFull},
	} {
		if l, at, e := syntax.Expr(x.source); e != x.e || at != x.at || !reflect.DeepEqual(l, api.Expr{}) {
			t.Errorf("Expr(%.40q) = %v, %d, %d; want %d, %d", x.source, l, at, e, x.at, x.e)
		}
	}
}

func TestTooLargeSources(t *testing.T) {
	for _, x := range []struct {
		source string
		at     int
		e      api.Errno
	}{
		{strings.Repeat("exit;", 500), 0, api.OK}, {strings.Repeat("exit;", 501), 0, api.ErrFull}, {strings.Repeat("exit;", 501) + "exit", 2509, api.ErrSyntax},
		{"x := " + strings.Repeat("-", 12) + "a;", 0, api.OK}, {"x := " + strings.Repeat("-", 13) + "a;", 0, api.ErrFull},
		{"x := " + strings.Repeat("-", 13) + "a", 19, api.ErrSyntax}, {"x := " + strings.Repeat("(", 3900) + "a" + strings.Repeat(")", 3900) + ";", 0, api.OK},
		{"x := " + strings.Repeat("not ", 1990) + "a;", 0, api.ErrFull}, {strings.Repeat("if a then ", 790), 7900, api.ErrSyntax},
		{strings.Repeat("repeat ", 14) + strings.Repeat("until a end_repeat;", 14), 0, api.ErrFull},
		{strings.Repeat("repeat ", 13) + strings.Repeat("until a end_repeat;", 13), 0, api.OK},
	} {
		l, at, e := syntax.Text(x.source)
		if e != x.e || at != x.at || (e != api.OK && len(l) != 0) {
			t.Errorf("Text(%.30q) of %d bytes: %d, %d; want %d, %d", x.source, len(x.source), at, e, x.at, x.e)
		}
	}
	for _, x := range []struct {
		source string
		at     int
		e      api.Errno
	}{
		{strings.Repeat("-", 13) + "a", 0, api.OK}, {strings.Repeat("-", 14) + "a", 0, api.ErrFull}, {strings.Repeat("-", 7999) + "a", 0, api.ErrFull},
		{strings.Repeat("-", 8000), 8000, api.ErrSyntax}, {strings.Repeat("(", 3999) + "a" + strings.Repeat(")", 3999), 0, api.OK},
		{strings.Repeat("(", 8000), 8000, api.ErrSyntax}, {strings.Repeat("f(", 14) + strings.Repeat(")", 14), 0, api.OK},
		{strings.Repeat("f(", 14) + "a" + strings.Repeat(")", 14), 0, api.ErrFull}, {strings.Repeat("f[", 4000), 8000, api.ErrSyntax},
		{"f(" + strings.Repeat("a,", 498) + "a)", 0, api.OK}, {"f(" + strings.Repeat("a,", 499) + "a)", 0, api.ErrFull},
		{"a" + strings.Repeat("+a", 13), 0, api.OK}, {"a" + strings.Repeat("+a", 14), 0, api.ErrFull}, {"a" + strings.Repeat("+a", 3999), 0, api.ErrFull},
	} {
		l, at, e := syntax.Expr(x.source)
		if e != x.e || at != x.at || (e != api.OK && !reflect.DeepEqual(l, api.Expr{})) {
			t.Errorf("Expr(%.30q) of %d bytes: %d, %d; want %d, %d", x.source, len(x.source), at, e, x.at, x.e)
		}
	}
}

// write prints expressions with all parentheses that there can be.
func write(e api.Expr) string {
	var args []string
	for _, a := range e.Args {
		args = append(args, "("+write(a)+")")
	}
	switch e.Op {
	case api.EConst:
		if e.Kind == api.KBool {
			return []string{"false", "true"}[e.N]
		}
		return []string{api.KInt: "", api.KTime: "t#"}[e.Kind] + strconv.Itoa(e.N)
	case api.EName:
		return e.S
	case api.EField:
		return e.S + "." + e.Field
	case api.EIndex:
		return e.S + "[" + args[0] + "]"
	case api.ECall:
		return e.S + "(" + strings.Join(args, ",") + ")"
	case api.ENot:
		return "not" + args[0]
	case api.ENeg:
		return "-" + args[0]
	}
	for s, op := range operators {
		if op == e.Op {
			return args[0] + s + args[1]
		}
	}
	return "?"
}

func randomName(r *rand.Rand) string {
	return []string{"a", "b", "t1", "limit", "twelve_bytes"}[r.Intn(5)]
}

func randomExpr(r *rand.Rand, depth int) api.Expr {
	n := r.Intn(21) + 1
	if depth <= 1 {
		n = r.Intn(3) + 1
	}
	switch arg := func() api.Expr { return randomExpr(r, depth-1) }; n {
	case api.EConst:
		return []api.Expr{number(r.Intn(1 << 31)), time(r.Intn(1 << 31)), truth(r.Intn(2))}[r.Intn(3)]
	case api.EName:
		return name(randomName(r))
	case api.EField:
		return api.Expr{Op: n, S: randomName(r), Field: randomName(r)}
	case api.EIndex:
		return api.Expr{Op: n, S: randomName(r), Args: list(arg())}
	case api.ECall:
		e := api.Expr{Op: n, S: randomName(r)}
		for range r.Intn(3) {
			e.Args = append(e.Args, arg())
		}
		return e
	case api.ENot, api.ENeg:
		return apply(n, arg())
	default:
		return apply(n, arg(), arg())
	}
}

func TestEveryExpressionCanBeRead(t *testing.T) {
	r := rand.New(rand.NewSource(5))
	for range 3000 {
		e := randomExpr(r, 1+r.Intn(5))
		got, _, err := syntax.Expr(write(e))
		if err != api.OK || !reflect.DeepEqual(got, e) || !syntax.SameExpr(got, e) || syntax.CheckExpr(e) != api.OK {
			t.Fatalf("Expr(%q) = %v, %d", write(e), got, err)
		}
	}
}

var someTexts = []string{
	"", "x := 1 + 2 * 3;", "t1(in := a, pt := t#500); f();", "if a then elsif b then exit; else return; end_if;",
	"case n of 1, -2: x := 1; 3: else end_case;", "for i := 1 to 3 by -1 do x[i] := a.q; end_for;", "while a do end_while; repeat until f(a) end_repeat;",
}

// TestPropertiesOfTexts is about P2.3.
func TestPropertiesOfTexts(t *testing.T) {
	for _, first := range someTexts {
		a, _, e := syntax.Text(first)
		tokens, _, _ := lexis.Tokens(first)
		joined, _ := lexis.Join(tokens)
		b, _, f := syntax.Text(joined)
		if e != api.OK || f != api.OK || syntax.Check(a) != api.OK || !syntax.Same(a, b) {
			t.Errorf("%q and %q: %d, %d", first, joined, e, f)
		}
		for _, second := range someTexts {
			b, _, _ := syntax.Text(second)
			both, _, e := syntax.Text(first + "\n" + second)
			if e != api.OK || !syntax.Same(both, append(append([]api.Stmt(nil), a...), b...)) {
				t.Errorf("%q and then %q: %d", first, second, e)
			}
		}
	}
}

// TestNewMemory is about the rule of effects: what one caller does to a result is no matter of another.
func TestNewMemory(t *testing.T) {
	for _, s := range someTexts {
		a, _, _ := syntax.Text(s)
		b, _, _ := syntax.Text(s)
		spoilStatements(a)
		c, _, _ := syntax.Text(s)
		if !syntax.Same(b, c) {
			t.Errorf("%q was changed", s)
		}
	}
}

func spoilStatements(l []api.Stmt) {
	for i := range l {
		clear(l[i].Args)
		clear(l[i].Index)
		clear(l[i].Fields)
		for _, a := range l[i].Arms {
			clear(a.If)
			clear(a.Labels)
			spoilStatements(a.Body)
		}
		spoilStatements(l[i].Body)
		spoilStatements(l[i].Other)
	}
	clear(l)
}

// TestAnySource is about P1 and P2: no panic, and the same results again.
func TestAnySource(t *testing.T) {
	r := rand.New(rand.NewSource(6))
	for range 5000 {
		b := make([]byte, r.Intn(20))
		for i := range b {
			b[i] = "ax1 ;:=()[]+-.,<>\x00\xff"[r.Intn(19)]
		}
		s := string(b)
		l, at, e := syntax.Text(s)
		m, at2, e2 := syntax.Text(s)
		x, at3, e3 := syntax.Expr(s)
		y, at4, e4 := syntax.Expr(s)
		if !syntax.Same(l, m) || at != at2 || e != e2 || !syntax.SameExpr(x, y) || at3 != at4 || e3 != e4 {
			t.Fatalf("%q is read in two ways", s)
		}
	}
}
