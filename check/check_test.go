package check_test

import (
	"math"
	"slices"
	"strconv"
	"strings"
	"testing"

	"winch/api"
	"winch/check"
	"winch/project"
	"winch/syntax"
)

func of[T any](l ...T) []T { return l }

// read returns the project of a source.
func read(t *testing.T, source string) api.Project {
	t.Helper()
	p, at, err := project.Read(source)
	if err != api.OK {
		t.Fatalf("Read(%q): %d, %d", source, at, err)
	}
	return p
}

// variables are those of the program main, whose bodies are checked.
const variables = "input a bool; b bool; n int; d time; xi int[3]; bi bool[2]; ti ton; output q bool; m int; e time; yo int[2]; local l bool; k int; x int[3]; y bool[2]; z time[2]; one bool[1]; t1 ton; c1 ctu; b1 blk; s1 none; retain r bool; "

// others are the other units than main.
const others = "block blk input i bool; j int; g time; w int[2]; h ton; output o bool; p int; u time; v bool[2]; f rtrig; local s bool; retain x bool; st end " +
	"function fb : bool input u bool; v int; local w int; st end function fi : int st end function ft : time local w int; input u time; st end program pr input a bool; output q bool; st end block none st end "

// main returns a project whose first unit has a body.
func main(t *testing.T, body string) api.Project {
	t.Helper()
	return read(t, "program main "+variables+body+" end "+others)
}

// expectSound checks that a project is sound, or has an error in its first unit.
func expectSound(t *testing.T, what string, p api.Project, want api.Errno) {
	t.Helper()
	at, err := check.Check(p)
	errOfUnit := check.Unit(p, 0)
	good := 0
	if want == api.OK {
		good = len(p.Units)
	}
	if at != good || err != want || errOfUnit != want {
		t.Errorf("%s: Check %d, %d, Unit %d; want %d", what, at, err, errOfUnit, want)
	}
}

// bodies are parts of bodies, or expressions, by their errors; they are written with "~" between them.
type bodies map[api.Errno]string

// expect checks bodies of the program main, each of which is a part with something before and after it.
func (l bodies) expect(t *testing.T, before, after string) {
	t.Helper()
	for want, all := range l {
		for source := range strings.SplitSeq(all, "~") {
			body := before + strings.TrimSpace(source) + after
			expectSound(t, body, main(t, body), want)
		}
	}
}

// TestExamples has those of the chapter.
func TestExamples(t *testing.T) {
	expectSound(t, "1", read(t, "program p input a int; st a := 1; end"), api.ErrPlace)
	expectSound(t, "2", read(t, "program p input a bool; il and a; end"), api.ErrKind)
	expectSound(t, "3", read(t, "program p output q bool; local t1 ton; st q := t1.q; t1(in := q, pt := 5); end"), api.ErrKind)
	expectSound(t, "3 with a time", read(t, "program p output q bool; local t1 ton; st q := t1.q; t1(in := q, pt := t#5); end"), api.OK)
	expectSound(t, "nothing", main(t, "st"), api.OK)
}

// kindsOf has expressions by their kinds.
var kindsOf = map[int]string{
	api.KBool: "true ~ false ~ a ~ q ~ l ~ r ~ y[0] ~ y[n] ~ bi[x[0]] ~ one[0] ~ t1.q ~ ti.q ~ c1.q ~ b1.o ~ not a ~ not (n = m) ~ a or b ~ a xor b ~ a and true ~ a = b ~ a <> b ~ n = m ~ n <> 5 ~ d = e ~ d <> t#5 ~ n < m ~ d < e ~ n <= m ~ d <= e ~ n > m ~ d > e ~ n >= m ~ d >= e ~ fb(a, n) ~ fb(a, 5) and b ~ tobool(n) ~ fi() = 5 ~ x[x[x[0]]] = 0",
	api.KInt:  "0 ~ 2147483647 ~ n ~ m ~ k ~ x[0] ~ x[5] ~ yo[n + 1] ~ xi[fi()] ~ c1.cv ~ b1.p ~ -n ~ -5 ~ n + m ~ n - 5 ~ n * m ~ n / m ~ n mod 0 ~ fi() ~ abs(n) ~ min(n, m) ~ max(1, 2) ~ limit(0, n, 5) ~ sel(a, n, m) ~ sel(n > 0, 1, 2) ~ toint(d) ~ toint(t#5 + e) ~ abs(abs(abs(n)))",
	api.KTime: "t#5 ~ d ~ e ~ z[0] ~ t1.et ~ ti.et ~ b1.u ~ d + e ~ d - t#1 ~ totime(n) ~ ft(d) ~ ft(ft(t#1 + e)) ~ z[toint(d)]",
}

// wrongExpressions have an error, wherever they stand.
var wrongExpressions = bodies{
	api.ErrName:  "none1 ~ main ~ t1.r ~ t1.in ~ t1.since ~ t1.x ~ b1.i ~ b1.s ~ b1.x ~ b1.v ~ b1.f ~ b1.blk ~ none1.q ~ none1[0] ~ none1[true] ~ none1() ~ main1(a) ~ ton1(a) ~ x[none1] ~ fb(none1, 5) ~ fb(a, none1) ~ not none1 ~ -none1 ~ none1 + a ~ a + none1 ~ none1 and none2() ~ abs(none1) ~ t1() ~ a() ~ fb ~ abs ~ in ~ ton ~ ton() ~ w ~ u",
	api.ErrKind:  "x ~ y ~ z ~ one ~ t1 ~ b1 ~ ti ~ n.q ~ x.q ~ n[0] ~ a[none1] ~ t1[0] ~ b1[0] ~ x[a] ~ x[d] ~ x[x] ~ x[t1] ~ y[true] ~ z[t#1] ~ main(a) ~ blk(a) ~ pr() ~ none(none1) ~ fb(n, n) ~ fb(a, a) ~ fb(n, none1) ~ ft(n) ~ abs(a) ~ abs(d) ~ min(n, d) ~ sel(n, n, n) ~ sel(a, a, a) ~ sel(n, none1, 5) ~ limit(n, n, t#1) ~ tobool(a) ~ toint(n) ~ totime(d) ~ abs(x) ~ abs(t1)",
	api.ErrCount: "fb() ~ fb(a) ~ fb(a, n, n) ~ fb(none1) ~ fb(n) ~ fi(n) ~ fi(none1) ~ ft() ~ ft(d, d) ~ abs() ~ abs(n, n) ~ min(n) ~ max(n, n, n) ~ limit(n, n) ~ sel(a, n) ~ tobool() ~ toint(d, d) ~ totime(none1, 5) ~ fb(a, none1, n)",
}

// wrongOperands are those that operators do not want.
const wrongOperands = "not n ~ not d ~ not x[0] ~ -a ~ -d ~ -(a and b) ~ a or n ~ n or a ~ n or m ~ d or d ~ a xor n ~ d xor a ~ a and d ~ n and n ~ n + a ~ a + n ~ a + b ~ n + d ~ d + n ~ n - d ~ d - n ~ a - a ~ n * d ~ d * n ~ d * d ~ a * n ~ n / d ~ d / n ~ d / d ~ a / b ~ n mod d ~ d mod d ~ a mod n ~ a = n ~ n = a ~ n = d ~ d = n ~ a <> d ~ d <> n ~ " +
	"a < b ~ a < n ~ n < d ~ d < n ~ a <= b ~ n <= d ~ a > b ~ d > n ~ a >= b ~ n >= a ~ x = x ~ t1 = t1 ~ x + 1 ~ n + x ~ not y ~ not t1 ~ -x ~ a and t1 ~ (n + d) + none1 ~ not n and none1 ~ a = n or none1 ~ n < d * d + none1"

// expression returns the expression of a source.
func expression(t *testing.T, source string) api.Expr {
	t.Helper()
	e, at, err := syntax.Expr(source)
	if err != api.OK {
		t.Fatalf("Expr(%q): %d, %d", source, at, err)
	}
	return e
}

func TestExpr(t *testing.T) {
	p := main(t, "st")
	for kind, all := range kindsOf {
		for source := range strings.SplitSeq(all, "~") {
			if got, err := check.Expr(p, 0, expression(t, source)); got != kind || err != api.OK {
				t.Errorf("Expr(%s) = %d, %d; want %d", source, got, err, kind)
			}
		}
	}
	for want, all := range wrongExpressionsAndOperands() {
		for source := range strings.SplitSeq(all, "~") {
			if got, err := check.Expr(p, 0, expression(t, source)); got != 0 || err != want {
				t.Errorf("Expr(%s) = %d, %d; want %d", source, got, err, want)
			}
		}
	}
}

// TestExprOfFunction is about a function, whose own name is a variable, too.
func TestExprOfFunction(t *testing.T) {
	p := read(t, "function f : int input x bool; local y time; st end function g : time st end block b input f int; st end program p local x b; st end")
	for _, x := range []struct {
		unit   int
		source string
		want   int
		err    api.Errno
	}{
		{0, "f", api.KInt, api.OK}, {0, "f + 1", api.KInt, api.OK}, {0, "x", api.KBool, api.OK}, {0, "y", api.KTime, api.OK}, {0, "g()", api.KTime, api.OK}, {0, "f(x)", api.KInt, api.OK}, {1, "g", api.KTime, api.OK}, {0, "f[0]", 0, api.ErrKind}, {0, "f.q", 0, api.ErrKind}, {0, "g", 0, api.ErrName}, {1, "f", 0, api.ErrName}, {0, "f and x", 0, api.ErrKind},
		{2, "f", api.KInt, api.OK}, {2, "b", 0, api.ErrName}, {3, "p", 0, api.ErrName}, {3, "x.f", 0, api.ErrName}, {3, "x", 0, api.ErrKind}, {3, "b(x)", 0, api.ErrKind},
		{4, "f", 0, api.ErrArg}, {-1, "f", 0, api.ErrArg}, {math.MinInt, "f", 0, api.ErrArg}, {math.MaxInt, "1", 0, api.ErrArg},
	} {
		if got, err := check.Expr(p, x.unit, expression(t, x.source)); got != x.want || err != x.err {
			t.Errorf("Expr(%d, %s) = %d, %d; want %d, %d", x.unit, x.source, got, err, x.want, x.err)
		}
	}
}

// TestExprErrors is about what comes before the errors of an expression.
func TestExprErrors(t *testing.T) {
	good, wrong := expression(t, "1"), api.Expr{Op: api.EName, S: "?"}
	for _, x := range []struct {
		source string
		unit   int
		e      api.Expr
		want   api.Errno
	}{
		// Bodies do not matter, and everything else does.
		{"program p st x := 1; end block b il and a; end", 0, good, api.OK}, {"program p st x := 1; end block b il and a; end", 1, good, api.OK}, {"program p st x := 1; end program p st end", 0, good, api.ErrTwice}, {"program p st x := 1; end task t every t#1 priority 1 run q;", 0, good, api.ErrName}, {"function f : int st f := f(); end", 0, good, api.ErrRing},
		{"program p local x y; st end", 0, wrong, api.ErrName}, {"program p local x y; st end", 5, good, api.ErrName}, {"program p st end", 1, wrong, api.ErrArg}, {"program p st end", 0, wrong, api.ErrArg}, {"program p st end", 0, api.Expr{}, api.ErrArg}, {"program p st end", 0, api.Expr{Op: api.EConst, Kind: api.KInt, N: -1}, api.ErrArg},
		{"program p st end", 0, api.Expr{Op: api.ECall, S: "f", Args: slices.Repeat(of(good), 1<<16)}, api.ErrArg}, {"", 0, good, api.ErrArg},
	} {
		kind, err := check.Expr(read(t, x.source), x.unit, x.e)
		if want := map[bool]int{true: api.KInt}[x.want == api.OK]; kind != want || err != x.want {
			t.Errorf("Expr(%q, %d) = %d, %d; want %d", x.source, x.unit, kind, err, x.want)
		}
	}
}

// wrongExpressionsAndOperands returns all expressions that have an error.
func wrongExpressionsAndOperands() bodies {
	all := bodies{}
	for want, sources := range wrongExpressions {
		all[want] = sources
	}
	all[api.ErrKind] += " ~ " + wrongOperands
	return all
}

// words returns a number of words, in each of which # is its number.
func words(n int, word string) string {
	var all strings.Builder
	for i := range n {
		all.WriteString(strings.ReplaceAll(word, "#", strconv.Itoa(i)))
	}
	return all.String()
}
