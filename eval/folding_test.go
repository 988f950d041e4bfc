package eval_test

import (
	"math"
	"math/rand"
	"reflect"
	"testing"

	"winch/api"
	"winch/eval"
	"winch/print"
	"winch/syntax"
)

func expr(t *testing.T, source string) api.Expr {
	t.Helper()
	e, at, err := syntax.Expr(source)
	if err != api.OK {
		t.Fatalf("Expr(%q): %d, %d", source, at, err)
	}
	return e
}

func TestFold(t *testing.T) {
	for source, want := range map[string]string{
		"x + 2 * 3": "x + 6", "x": "x", "5": "5", "true": "true", "t#5": "t#5", "t.q": "t.q", "x[1 + 2]": "x[3]", "f(1 + 2, x, 3 * 4 + y)": "f(3, x, 12 + y)", "f()": "f()", "abs(0 - 0)": "abs(0)", "abs(5)": "abs(5)", "max(1, 2)": "max(1, 2)",
		"not true": "false", "not false": "true", "not x": "not x", "not not true": "true", "not not x": "not not x", "not (1 < 2)": "false", "-0": "0", "-5": "-5", "--5": "--5", "-(5 - 5)": "0", "-x": "-x",
		"true or false": "true", "false or false": "false", "true xor true": "false", "true xor false": "true", "true and true": "true", "true and false": "false",
		"2 + 3": "5", "3 - 2": "1", "2 - 3": "2 - 3", "3 - 3": "0", "2 * 3": "6", "7 / 2": "3", "7 mod 2": "1", "7 / 0": "7 / 0", "7 mod 0": "7 mod 0", "0 / 7": "0", "0 / 0": "0 / 0",
		"t#2 + t#3": "t#5", "t#3 - t#2": "t#1", "t#2 - t#3": "t#2 - t#3", "t#3 - t#3": "t#0", "2147483647 + 1": "2147483647 + 1", "2147483647 + 2147483647": "2147483647 + 2147483647", "65536 * 65536": "0", "65536 * 65537": "65536", "32768 * 65536": "32768 * 65536", "t#2147483647 + t#1": "t#2147483647 + t#1",
		"1 = 1": "true", "1 = 2": "false", "1 <> 1": "false", "1 <> 2": "true", "true = true": "true", "true = false": "false", "true <> false": "true", "t#1 = t#1": "true", "t#1 <> t#1": "false", "1 < 2": "true", "2 < 2": "false", "2 <= 2": "true", "3 <= 2": "false", "3 > 2": "true", "2 > 2": "false", "2 >= 2": "true", "1 >= 2": "false",
		"t#1 < t#2": "true", "t#1 >= t#2": "false", "t#1 <= t#1": "true", "t#1 > t#1": "false",
		// Operands of other kinds are not wanted.
		"not 1": "not 1", "not t#1": "not t#1", "1 or 0": "1 or 0", "1 and 1": "1 and 1", "0 and 1": "0 and 1", "1 or x": "1 or x", "0 and x": "0 and x", "t#0 and x": "t#0 and x", "1 xor 1": "1 xor 1", "true + true": "true + true", "-true": "-true", "-t#0": "-t#0", "1 + t#1": "1 + t#1", "t#1 + 1": "t#1 + 1", "t#2 - 1": "t#2 - 1", "t#2 * t#3": "t#2 * t#3", "2 * t#3": "2 * t#3", "t#4 / t#2": "t#4 / t#2", "t#4 mod t#3": "t#4 mod t#3",
		"true = 1": "true = 1", "1 = t#1": "1 = t#1", "t#0 <> false": "t#0 <> false", "false < true": "false < true", "false >= false": "false >= false", "1 < t#2": "1 < t#2", "true and 1": "true and 1", "1 and true": "1 and true",
		// The left operand decides.
		"false and x": "false", "true or x": "true", "x and false": "x and false", "x or true": "x or true", "true and x": "true and x", "false or x": "false or x", "false and 5": "false", "true or 1 / 0 = 1": "true", "not true and x": "false", "1 < 2 or x": "true", "false xor x": "false xor x", "true xor x": "true xor x",
		"false and x or y": "false or y", "(true or x) and y": "true and y", "(x or true) and false": "(x or true) and false", "false and x and y": "false", "true or x or y": "true", "x and (false and y)": "x and false", "not (false and x)": "true", "(true or x) = true": "true",
		// Constants are not moved, and what is not replaced stays as it is.
		"x + 2 + 3": "x + 2 + 3", "2 + 3 + x": "5 + x", "2 - 3 + 5": "2 - 3 + 5", "1 + (2 + (3 + 4))": "10", "-1 + 2": "-1 + 2", "(2 - 3) * 2 - 1 + 1": "(2 - 3) * 2 - 1 + 1", "7 / 0 + 1": "7 / 0 + 1", "x[7 / 0]": "x[7 / 0]", "f(x[1 + 1], not true) + 1 * 1": "f(x[2], false) + 1",
	} {
		before := expr(t, source)
		got, err := eval.Fold(before)
		if text, _ := print.Expr(got); err != api.OK || text != want || !reflect.DeepEqual(got, expr(t, want)) {
			t.Errorf("Fold(%s) = %v, %s, %d; want %s", source, got, text, err, want)
		}
		if !reflect.DeepEqual(before, expr(t, source)) {
			t.Errorf("Fold changed %s", source)
		}
	}
}

func TestFoldErrors(t *testing.T) {
	constant := api.Expr{Op: api.EConst, Kind: api.KInt, N: 1}
	deep := constant
	for range 14 {
		deep = api.Expr{Op: api.ENot, Args: of(deep)}
	}
	loop := api.Expr{Op: api.ENot, Args: make([]api.Expr, 1)}
	loop.Args[0] = loop
	for _, e := range []api.Expr{{}, {Op: api.EConst}, {Op: api.EConst, Kind: api.KInt, N: -1}, {Op: api.EConst, Kind: api.KBool, N: 2}, {Op: api.EConst, Kind: 4}, {Op: api.EName}, {Op: api.EName, S: "if"}, {Op: api.ENot}, {Op: api.EAnd}, {Op: api.EAnd, Args: of(constant)}, {Op: api.EAdd, Args: of(constant, constant, constant)}, {Op: api.EAdd, Args: of(constant, api.Expr{})},
		{Op: 22, Args: of(constant, constant)}, {Op: -1}, {Op: math.MinInt}, {Op: math.MaxInt, Args: make([]api.Expr, 1<<16)}, {Op: api.EOr, Args: make([]api.Expr, 1<<16)}, {Op: api.ECall, S: "f", Args: make([]api.Expr, 501)}, deep, loop} {
		if got, err := eval.Fold(e); err != api.ErrArg || !reflect.DeepEqual(got, api.Expr{}) {
			t.Errorf("Fold of an expression with the operator %d: %v, %d", e.Op, got, err)
		}
	}
}

// TestFoldIsNew checks that the result shares no memory with the argument.
func TestFoldIsNew(t *testing.T) {
	const source = "f(x[y], not z) + a * (b - 1) + 0"
	before := expr(t, source)
	got, _ := eval.Fold(before)
	spoil(before.Args)
	if !reflect.DeepEqual(got, expr(t, source)) {
		t.Errorf("changed with the argument: %v", got)
	}
}

func spoil(l []api.Expr) {
	for i := range l {
		spoil(l[i].Args)
		l[i] = api.Expr{}
	}
}

// randomExpr returns an expression of a kind.
func randomExpr(r *rand.Rand, kind, depth int) api.Expr {
	two := func(op, kind int) api.Expr {
		left := randomExpr(r, kind, depth-1)
		return api.Expr{Op: op, Args: of(left, randomExpr(r, kind, depth-1))}
	}
	number := of(api.KInt, api.KTime)[r.Intn(2)]
	switch {
	case depth == 0 && r.Intn(3) == 0:
		return api.Expr{Op: api.EName, S: of("", "b", "n", "d")[kind]}
	case depth == 0 && kind == api.KBool:
		return api.Expr{Op: api.EConst, Kind: kind, N: r.Intn(2)}
	case depth == 0:
		return api.Expr{Op: api.EConst, Kind: kind, N: of(0, 1, 2, 3, 65536, math.MaxInt32)[r.Intn(6)]}
	case kind == api.KTime:
		return two(of(api.EAdd, api.ESub)[r.Intn(2)], kind)
	case kind == api.KInt && r.Intn(6) == 0:
		return api.Expr{Op: api.ENeg, Args: of(randomExpr(r, kind, depth-1))}
	case kind == api.KInt:
		return two(api.EAdd+r.Intn(5), kind)
	case r.Intn(6) == 0:
		return api.Expr{Op: api.ENot, Args: of(randomExpr(r, kind, depth-1))}
	case r.Intn(3) == 0:
		return two(api.EEq+r.Intn(6), number)
	}
	return two(api.EOr+r.Intn(3), kind)
}

// valueOf computes an expression whose names have values, with exact numbers; false if it has a fault.
func valueOf(e api.Expr, names map[string]int) (int, bool) {
	switch e.Op {
	case api.EConst:
		return e.N, true
	case api.EName:
		return names[e.S], true
	}
	v, is := valueOf(e.Args[0], names)
	if len(e.Args) == 1 {
		if e.Op == api.ENot {
			return 1 - v, is
		}
		n, _, _ := model(api.ESub, 0, v)
		return n, is
	}
	w, too := valueOf(e.Args[1], names)
	n, fault, _ := model(e.Op, v, w)
	return n, is && too && fault == api.FNone
}

// TestFoldMeansTheSame checks that folding changes no value, and that nothing is left to fold (P11.4). What a left operand
// decides needs no right one, so that a fault in that one may be gone.
func TestFoldMeansTheSame(t *testing.T) {
	r := rand.New(rand.NewSource(2))
	folded := 0
	for range 5000 {
		e := randomExpr(r, 1+r.Intn(3), r.Intn(5))
		got, err := eval.Fold(e)
		again, errAgain := eval.Fold(got)
		if err != api.OK || errAgain != api.OK || !reflect.DeepEqual(again, got) {
			t.Fatalf("Fold of %v: %v, %d, and then %v, %d", e, got, err, again, errAgain)
		}
		if !reflect.DeepEqual(e, got) {
			folded++
		}
		for range 5 {
			names := map[string]int{"b": r.Intn(2), "n": r.Intn(5) - 2, "d": r.Intn(5)}
			before, is := valueOf(e, names)
			after, still := valueOf(got, names)
			if is && (!still || before != after) {
				t.Fatalf("%v: %d, folded to %v: %d, %v", e, before, got, after, still)
			}
		}
	}
	if folded < 2000 {
		t.Errorf("only %d expressions have been folded", folded)
	}
}
