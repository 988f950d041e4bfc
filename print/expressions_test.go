package print_test

import (
	"math"
	"math/rand"
	"reflect"
	"strings"
	"testing"

	"winch/api"
	"winch/print"
	"winch/syntax"
)

func number(n int) api.Expr { return api.Expr{Op: api.EConst, Kind: api.KInt, N: n} }

func time(n int) api.Expr { return api.Expr{Op: api.EConst, Kind: api.KTime, N: n} }

func truth(n int) api.Expr { return api.Expr{Op: api.EConst, Kind: api.KBool, N: n} }

func name(s string) api.Expr { return api.Expr{Op: api.EName, S: s} }

func apply(op int, args ...api.Expr) api.Expr { return api.Expr{Op: op, Args: args} }

func list[T any](l ...T) []T { return l }

func set(s string, e api.Expr) api.Stmt { return api.Stmt{Op: api.SSet, Name: s, Args: list(e)} }

// levels has the operators of two operands, from the lowest level on.
var levels = [][]int{{api.EOr}, {api.EXor}, {api.EAnd}, {api.EEq, api.ENe}, {api.ELt, api.ELe, api.EGt, api.EGe}, {api.EAdd, api.ESub}, {api.EMul, api.EDiv, api.EMod}}

var signs = map[int]string{api.EOr: "or", api.EXor: "xor", api.EAnd: "and", api.EEq: "=", api.ENe: "<>", api.ELt: "<", api.ELe: "<=", api.EGt: ">", api.EGe: ">=",
	api.EAdd: "+", api.ESub: "-", api.EMul: "*", api.EDiv: "/", api.EMod: "mod"}

// expectExpr checks the text of an expression, alone and in a statement.
func expectExpr(t *testing.T, e api.Expr, want string) {
	t.Helper()
	if got, err := print.Expr(e); got != want || err != api.OK {
		t.Errorf("Expr(%v) = %q, %d; want %q", e, got, err, want)
	}
	if got, err := print.Text(list(set("x", e))); got != "x := "+want+";\n" || err != api.OK {
		t.Errorf("Text of x := %v: %q, %d", e, got, err)
	}
}

func TestTextsOfExpressions(t *testing.T) {
	a, b := name("a"), name("b")
	for _, x := range []struct {
		e    api.Expr
		want string
	}{
		{number(0), "0"}, {number(2147483647), "2147483647"}, {time(0), "t#0"}, {time(500), "t#500"}, {time(2147483647), "t#2147483647"},
		{truth(1), "true"}, {truth(0), "false"}, {a, "a"}, {name("limit"), "limit"}, {name("twelve_bytes"), "twelve_bytes"},
		{api.Expr{Op: api.EField, S: "t1", Field: "q"}, "t1.q"},
		{api.Expr{Op: api.EIndex, S: "x", Args: list(a)}, "x[a]"},
		{api.Expr{Op: api.EIndex, S: "x", Args: list(apply(api.EOr, a, b))}, "x[a or b]"},
		{api.Expr{Op: api.ECall, S: "f"}, "f()"}, {api.Expr{Op: api.ECall, S: "f", Args: []api.Expr{}}, "f()"},
		{api.Expr{Op: api.ECall, S: "f", Args: list(a)}, "f(a)"},
		{api.Expr{Op: api.ECall, S: "f", Args: list(a, apply(api.EOr, a, b), time(2), api.Expr{Op: api.ECall, S: "g"})}, "f(a, a or b, t#2, g())"},
		{apply(api.ENot, a), "not a"}, {apply(api.ENeg, a), "-a"}, {apply(api.ENeg, number(1)), "-1"}, {apply(api.ENot, apply(api.ENot, a)), "not not a"},
		{apply(api.ENeg, apply(api.ENeg, a)), "--a"}, {apply(api.ENeg, apply(api.ENot, a)), "-not a"}, {apply(api.ENot, apply(api.ENeg, a)), "not -a"},
		{apply(api.ESub, a, apply(api.ENeg, b)), "a - -b"}, {apply(api.ESub, apply(api.ENeg, a), b), "-a - b"},
		{apply(api.EAnd, apply(api.ENot, a), apply(api.ENot, b)), "not a and not b"}, {apply(api.ENot, apply(api.EAnd, a, b)), "not (a and b)"},
		{apply(api.EMul, apply(api.EAdd, number(1), number(2)), number(3)), "(1 + 2) * 3"}, {apply(api.EAdd, number(1), apply(api.EMul, number(2), number(3))), "1 + 2 * 3"},
		{apply(api.ESub, a, apply(api.ESub, a, b)), "a - (a - b)"}, {apply(api.ESub, apply(api.ESub, a, b), a), "a - b - a"},
		{apply(api.EOr, api.Expr{Op: api.EIndex, S: "x", Args: list(a)}, api.Expr{Op: api.EField, S: "t1", Field: "q"}), "x[a] or t1.q"},
		{apply(api.ENeg, api.Expr{Op: api.EIndex, S: "x", Args: list(apply(api.EAdd, a, b))}), "-x[a + b]"},
		{apply(api.ENot, apply(api.ENot, apply(api.EEq, a, apply(api.EEq, a, b)))), "not not (a = (a = b))"},
	} {
		expectExpr(t, x.e, x.want)
	}
}

// TestParentheses has each operator as each operand of each operator.
func TestParentheses(t *testing.T) {
	a, b, c := name("a"), name("b"), name("c")
	for i, outer := range levels {
		for j, inner := range levels {
			for _, p := range outer {
				for _, q := range inner {
					left, right := "a "+signs[q]+" b", "b "+signs[q]+" c"
					if j < i {
						left = "(" + left + ")"
					}
					if j <= i {
						right = "(" + right + ")"
					}
					expectExpr(t, apply(p, apply(q, a, b), c), left+" "+signs[p]+" c")
					expectExpr(t, apply(p, a, apply(q, b, c)), "a "+signs[p]+" "+right)
				}
			}
		}
		for _, p := range outer {
			text := "a " + signs[p] + " b"
			expectExpr(t, apply(p, a, b), text)
			expectExpr(t, apply(api.ENot, apply(p, a, b)), "not ("+text+")")
			expectExpr(t, apply(api.ENeg, apply(p, a, b)), "-("+text+")")
			expectExpr(t, apply(p, apply(api.ENot, a), apply(api.ENeg, b)), "not a "+signs[p]+" -b")
			expectExpr(t, api.Expr{Op: api.ECall, S: "f", Args: list(apply(p, a, b), c)}, "f("+text+", c)")
			expectExpr(t, api.Expr{Op: api.EIndex, S: "x", Args: list(apply(p, a, b))}, "x["+text+"]")
		}
	}
}

func TestConst(t *testing.T) {
	for _, x := range []struct {
		kind, n int
		want    string
	}{
		{api.KBool, 0, "false"}, {api.KBool, 1, "true"}, {api.KInt, 0, "0"}, {api.KInt, 1, "1"}, {api.KInt, -1, "-1"}, {api.KInt, 2147483647, "2147483647"},
		{api.KInt, -2147483647, "-2147483647"}, {api.KTime, 0, "t#0"}, {api.KTime, 1, "t#1"}, {api.KTime, 500, "t#500"}, {api.KTime, 2147483647, "t#2147483647"},
	} {
		if got, err := print.Const(x.kind, x.n); got != x.want || err != api.OK {
			t.Errorf("Const(%d, %d) = %q, %d; want %q", x.kind, x.n, got, err, x.want)
		}
	}
	for _, x := range [][2]int{
		{api.KBool, 2}, {api.KBool, -1}, {api.KBool, math.MaxInt}, {api.KInt, -2147483648}, {api.KInt, 2147483648}, {api.KInt, math.MinInt}, {api.KInt, math.MaxInt},
		{api.KTime, -1}, {api.KTime, -2147483647}, {api.KTime, 2147483648}, {api.KTime, math.MinInt}, {0, 0}, {0, 1}, {api.KBlock, 0}, {api.KBlock, 1}, {5, 0}, {-1, 0},
		{math.MaxInt, 1}, {math.MinInt, 1},
	} {
		if got, err := print.Const(x[0], x[1]); got != "" || err != api.ErrArg {
			t.Errorf("Const(%d, %d) = %q, %d", x[0], x[1], got, err)
		}
	}
}

func deep(n int) api.Expr {
	e := name("a")
	for range n - 1 {
		e = apply(api.ENeg, e)
	}
	return e
}

func wrongExpressions() []api.Expr {
	a := name("a")
	itself := apply(api.EAdd, a, a)
	itself.Args[0], itself.Args[1] = itself, itself
	return []api.Expr{
		{}, {Op: -1}, {Op: 22, Args: list(a, a)}, {Op: math.MaxInt}, {Op: math.MinInt, Args: list(a)}, number(-1), number(2147483648), time(-1), truth(2), {Op: api.EConst},
		{Op: api.EConst, Kind: api.KBlock}, {Op: api.EConst, Kind: api.KInt, S: "a"}, name(""), name("if"), name("A"), name("a b"), name("thirteen_byte"),
		{Op: api.EName, S: "a", N: 1}, {Op: api.EName, S: "a", Args: list(a)}, {Op: api.EField, S: "a"}, {Op: api.EField, S: "a", Field: "or"}, {Op: api.EIndex, S: "a"},
		{Op: api.EIndex, S: "a", Args: list(a, a)}, {Op: api.ECall}, {Op: api.ECall, S: "f", Args: list(api.Expr{})}, apply(api.ENot), apply(api.ENeg, a, a),
		apply(api.EAdd, a), apply(api.EAdd, a, a, a), apply(api.EAdd), apply(api.EAnd, a, api.Expr{}), deep(15), deep(60000), itself,
		{Op: api.ECall, S: "f", Args: make([]api.Expr, 3)}, {Op: api.ECall, S: "f", Args: repeated(a, 500)},
	}
}

func repeated[T any](x T, n int) []T {
	l := make([]T, n)
	for i := range l {
		l[i] = x
	}
	return l
}

func TestWrongExpressions(t *testing.T) {
	for _, e := range wrongExpressions() {
		if got, err := print.Expr(e); got != "" || err != api.ErrArg {
			t.Errorf("Expr(%.50v) = %q, %d", e.Op, got, err)
		}
	}
	if got, err := print.Expr(deep(14)); got != strings.Repeat("-", 13)+"a" || err != api.OK {
		t.Errorf("Expr of the depth 14: %q, %d", got, err)
	}
	call := api.Expr{Op: api.ECall, S: "f", Args: repeated(name("twelve_bytes"), 499)}
	if got, err := print.Expr(call); got != "f("+strings.Repeat("twelve_bytes, ", 498)+"twelve_bytes)" || err != api.OK {
		t.Errorf("Expr of 500 nodes: %d bytes, %d", len(got), err)
	}
}

func randomName(r *rand.Rand) string {
	return []string{"a", "b", "t1", "limit", "twelve_bytes"}[r.Intn(5)]
}

func randomExpr(r *rand.Rand, depth int) api.Expr {
	n := r.Intn(21) + 1
	if depth <= 1 {
		n = r.Intn(3) + 1
	}
	switch arg := func() api.Expr { return randomExpr(r, depth-1) }; n {
	case api.EConst:
		return []api.Expr{number(r.Intn(1 << 31)), time(r.Intn(1 << 31)), truth(r.Intn(2))}[r.Intn(3)]
	case api.EName:
		return name(randomName(r))
	case api.EField:
		return api.Expr{Op: n, S: randomName(r), Field: randomName(r)}
	case api.EIndex:
		return api.Expr{Op: n, S: randomName(r), Args: list(arg())}
	case api.ECall:
		e := api.Expr{Op: n, S: randomName(r)}
		for range r.Intn(3) {
			e.Args = append(e.Args, arg())
		}
		return e
	case api.ENot, api.ENeg:
		return apply(n, arg())
	default:
		return apply(n, arg(), arg())
	}
}

// TestExpressionsAgain is about P3.2: what is written is read again, and without any of its parentheses something else is, or nothing.
func TestExpressionsAgain(t *testing.T) {
	r := rand.New(rand.NewSource(1))
	for range 4000 {
		e := randomExpr(r, 1+r.Intn(6))
		text, err := print.Expr(e)
		got, _, err2 := syntax.Expr(text)
		if err != api.OK || err2 != api.OK || !reflect.DeepEqual(got, e) {
			t.Fatalf("Expr(%v) = %q, %d; read %v, %d", e, text, err, got, err2)
		}
		for open, c := range text {
			if c != '(' {
				continue
			}
			close := closing(text, open)
			without := text[:open] + " " + text[open+1:close] + " " + text[close+1:]
			if other, _, err := syntax.Expr(without); err == api.OK && syntax.SameExpr(other, e) {
				t.Fatalf("%q and %q are the same", text, without)
			}
		}
	}
}

// closing returns the position of the parenthesis that closes that at a position.
func closing(text string, at int) int {
	open := 0
	for i := at; i < len(text); i++ {
		switch text[i] {
		case '(':
			open++
		case ')':
			open--
		}
		if open == 0 {
			return i
		}
	}
	return len(text)
}
