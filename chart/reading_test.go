package chart_test

import (
	"math/rand"
	"reflect"
	"strings"
	"testing"

	"winch/api"
	"winch/chart"
	"winch/internal/ebnf"
	"winch/syntax"
)

func of[T any](l ...T) []T { return l }

// expr returns the expression of a source.
func expr(t *testing.T, source string) api.Expr {
	t.Helper()
	e, _, err := syntax.Expr(source)
	if err != api.OK {
		t.Fatalf("Expr(%q): %d", source, err)
	}
	return e
}

// stmts returns the statements of a source.
func stmts(t *testing.T, source string) []api.Stmt {
	t.Helper()
	l, _, err := syntax.Text(source)
	if err != api.OK {
		t.Fatalf("Text(%q): %d", source, err)
	}
	return l
}

// read returns the chart of a source.
func read(t *testing.T, source string) api.Chart {
	t.Helper()
	c, at, err := chart.Read(source)
	if err != api.OK {
		t.Fatalf("Read(%q): %d, %d", source, at, err)
	}
	return c
}

// expectChart checks that a source is read as a chart, with any blanks, and that this is written as a text.
func expectChart(t *testing.T, source, text string, want api.Chart) {
	t.Helper()
	for _, s := range []string{source, strings.ReplaceAll(source, " ", " \t\n// ; end\n"), text} {
		c, at, err := chart.Read(s)
		if err != api.OK || at != 0 || !reflect.DeepEqual(c, want) {
			t.Errorf("Read(%q) = %v, %d, %d; want %v", s, c, at, err, want)
		}
	}
	if got, err := chart.Text(want); got != text || err != api.OK {
		t.Errorf("Text(%v) = %q, %d; want %q", want, got, err, text)
	}
	if err := chart.Check(want); err != api.OK {
		t.Errorf("Check(%v) = %d", want, err)
	}
}

func initial(name string, l ...api.Action) api.Step {
	return api.Step{Name: name, Initial: true, Actions: l}
}

func step(name string, l ...api.Action) api.Step { return api.Step{Name: name, Actions: l} }

func TestActions(t *testing.T) {
	text := stmts(t, "x := 1; if a then y[2] := x; end_if;")
	for source, want := range map[string]api.Action{
		"while q": {Name: "q", Q: api.QWhile}, "set q": {Name: "q", Q: api.QSet}, "reset q": {Name: "q", Q: api.QReset}, "enter q": {Name: "q", Q: api.QEnter}, "leave q": {Name: "q", Q: api.QLeave},
		"limit_ t#500 q": {Name: "q", Q: api.QLimit, Time: 500}, "delay t#0 q": {Name: "q", Q: api.QDelay}, "limit_ t#0 q": {Name: "q", Q: api.QLimit}, "delay t#2147483647 twelve_bytes": {Name: "twelve_bytes", Q: api.QDelay, Time: 2147483647},
		"enter (x := 1; if a then y[2] := x; end_if;)": {Body: text, Q: api.QEnter}, "while (x := 1; if a then y[2] := x; end_if;)": {Body: text, Q: api.QWhile}, "leave (x := 1; if a then y[2] := x; end_if;)": {Body: text, Q: api.QLeave},
		"limit_ t#7 (x := 1; if a then y[2] := x; end_if;)": {Body: text, Q: api.QLimit, Time: 7}, "delay t#8 (exit;)": {Body: stmts(t, "exit;"), Q: api.QDelay, Time: 8},
		"enter ()": {Q: api.QEnter}, "while ()": {Q: api.QWhile}, "leave ()": {Q: api.QLeave}, "limit_ t#1 ()": {Q: api.QLimit, Time: 1}, "delay t#1 ()": {Q: api.QDelay, Time: 1},
		"while (x := (1 + 2) * f(y, (3));)": {Body: stmts(t, "x := (1 + 2) * f(y, 3);"), Q: api.QWhile}, "enter (t1(in := a); y[(n)] := b[1];)": {Body: stmts(t, "t1(in := a); y[n] := b[1];"), Q: api.QEnter},
	} {
		text := strings.ReplaceAll(strings.ReplaceAll(source, "(3)", "3"), "(n)", "n")
		expectChart(t, "initial step a do "+source+";", "initial step a do "+text+";\n", api.Chart{Steps: of(initial("a", want))})
		two := api.Chart{Steps: of(initial("a"), step("b", want, api.Action{Name: "c", Q: api.QSet}, want))}
		expectChart(t, "initial step a;step b do "+source+" do set c do "+source+";", "initial step a;\nstep b do "+text+" do set c do "+text+";\n", two)
	}
}

func TestParts(t *testing.T) {
	a := initial("a")
	x, y := api.Expr{Op: api.EName, S: "x"}, api.Expr{Op: api.EName, S: "y"}
	expectChart(t, "initial step a do while q; step b; from a to b when x; from b to a when y;", "initial step a do while q;\nstep b;\nfrom a to b when x;\nfrom b to a when y;\n",
		api.Chart{Steps: of(initial("a", api.Action{Name: "q", Q: api.QWhile}), step("b")), Trans: of(api.Trans{From: of("a"), To: of("b"), When: x}, api.Trans{From: of("b"), To: of("a"), When: y})})
	expectChart(t, "initial step a; initial step b; step c; from a , b to b, c , a when not ( x or y ) ; from c to c when true;", "initial step a;\ninitial step b;\nstep c;\nfrom a, b to b, c, a when not (x or y);\nfrom c to c when true;\n",
		api.Chart{Steps: of(a, initial("b"), step("c")), Trans: of(api.Trans{From: of("a", "b"), To: of("b", "c", "a"), When: expr(t, "not (x or y)")}, api.Trans{From: of("c"), To: of("c"), When: expr(t, "true")})})
	// Parts can stand in any order, and are written in that of the chapter.
	expectChart(t, "macro m ( b , b ) step b ; end ; from a to s when x; step s macro m; initial step a;", "step s macro m;\ninitial step a;\nfrom a to s when x;\nmacro m (b, b) step b; end;\n",
		api.Chart{Steps: of(api.Step{Name: "s", Macro: "m"}, a), Trans: of(api.Trans{From: of("a"), To: of("s"), When: x}), Inner: of(api.Chart{Name: "m", In: "b", Out: "b", Steps: of(step("b"))})})
	inner := api.Chart{Name: "n", In: "a", Out: "z", Steps: of(step("a", api.Action{Q: api.QEnter, Body: stmts(t, "x := 1; y := 2;")}), step("z")), Trans: of(api.Trans{From: of("a"), To: of("z"), When: y})}
	outer := api.Chart{Name: "m", In: "a", Out: "a", Steps: of(step("a"), api.Step{Name: "m", Macro: "n"}), Trans: of(api.Trans{From: of("a"), To: of("m"), When: x}), Inner: of(inner)}
	expectChart(t, "initial step m macro m; macro m(a, a) macro n(a, z) step a do enter (x := 1; y := 2;); from a to z when y; step z; end; step a; step m macro n; from a to m when x; end; macro n(b, c) step b; step c; end;",
		"initial step m macro m;\nmacro m (a, a) step a; step m macro n; from a to m when x; macro n (a, z) step a do enter (x := 1; y := 2;); step z; from a to z when y; end; end;\nmacro n (b, c) step b; step c; end;\n",
		api.Chart{Steps: of(api.Step{Name: "m", Initial: true, Macro: "m"}), Inner: of(outer, api.Chart{Name: "n", In: "b", Out: "c", Steps: of(step("b"), step("c"))})})
	expectChart(t, "initial step limit; from limit to limit when limit(x, 1) = f();", "initial step limit;\nfrom limit to limit when limit(x, 1) = f();\n",
		api.Chart{Steps: of(initial("limit")), Trans: of(api.Trans{From: of("limit"), To: of("limit"), When: expr(t, "limit(x, 1) = f()")})})
}

func TestReadErrors(t *testing.T) {
	minus := strings.Repeat("-", 14) + "a"
	for _, x := range []struct {
		source string
		at     int
		e      api.Errno
	}{
		{"step", 4, api.ErrSyntax}, {"step a", 6, api.ErrSyntax}, {"initial", 7, api.ErrSyntax}, {"initial a;", 8, api.ErrSyntax}, {"initial initial step a;", 8, api.ErrSyntax}, {"initial from a to a when x;", 8, api.ErrSyntax}, {"initial macro m(a, a) step a; end;", 8, api.ErrSyntax},
		{"step initial a;", 5, api.ErrSyntax}, {"step if;", 5, api.ErrSyntax}, {"step 1;", 5, api.ErrSyntax}, {"step a, b;", 6, api.ErrSyntax}, {"step a b;", 7, api.ErrSyntax}, {"step a;;", 7, api.ErrSyntax}, {"step a macro;", 12, api.ErrSyntax}, {"step a macro m macro n;", 15, api.ErrSyntax},
		{"step a macro m(a, a);", 14, api.ErrSyntax}, {"step a do;", 9, api.ErrSyntax}, {"step a do q;", 10, api.ErrSyntax}, {"step a do while;", 15, api.ErrSyntax}, {"step a do while q macro m;", 18, api.ErrSyntax}, {"step a do while q r;", 18, api.ErrSyntax}, {"step a do while q, r;", 17, api.ErrSyntax},
		{"step a do while t#5 q;", 16, api.ErrSyntax}, {"step a do limit q;", 10, api.ErrSyntax}, {"step a do limit_ q;", 17, api.ErrSyntax}, {"step a do limit_ 5 q;", 17, api.ErrSyntax}, {"step a do limit_ t#5;", 20, api.ErrSyntax}, {"step a do delay (x := 1;);", 16, api.ErrSyntax}, {"step a do delay t#5 t#6 q;", 20, api.ErrSyntax},
		{"step a do for q;", 10, api.ErrSyntax}, {"step a do do set q;", 10, api.ErrSyntax}, {"step a do set 1;", 14, api.ErrSyntax}, {"step a do set q[1];", 15, api.ErrSyntax}, {"step a do set q := 1;", 16, api.ErrSyntax}, {"step a do set q do", 18, api.ErrSyntax}, {"step a do set q set r;", 16, api.ErrSyntax},
		{"step a do enter (", 17, api.ErrSyntax}, {"step a do enter (;", 17, api.ErrSyntax}, {"step a do enter (q);", 18, api.ErrSyntax}, {"step a do enter (x := 1);", 23, api.ErrSyntax}, {"step a do enter (x := 1;;", 24, api.ErrSyntax}, {"step a do enter (x := 1; ;", 25, api.ErrSyntax}, {"step a do enter (x := (1;);", 24, api.ErrSyntax},
		{"step a do enter (x := 1;));", 25, api.ErrSyntax}, {"step a do enter (x[1) := 2;);", 20, api.ErrSyntax}, {"step a do enter (x := 1;];", 24, api.ErrSyntax}, {"step a do enter (if a then exit;);", 32, api.ErrSyntax}, {"step a do enter (exit; end);", 23, api.ErrSyntax}, {"step a do enter (exit;) (exit;);", 24, api.ErrSyntax},
		{"step a do enter ((exit;));", 17, api.ErrSyntax}, {"step a do enter (x(a := 1;);", 25, api.ErrSyntax}, {"step a do enter (exit; step b; ", 23, api.ErrSyntax}, {"step a do enter (x := ) step b;", 22, api.ErrSyntax}, {"step a do enter (f(a := [1;);", 24, api.ErrSyntax}, {"step a do set () do set (exit;) do set (", 40, api.ErrSyntax},
		{"from", 4, api.ErrSyntax}, {"from to a when x;", 5, api.ErrSyntax}, {"from a, to b when x;", 8, api.ErrSyntax}, {"from a b to c when x;", 7, api.ErrSyntax}, {"from a when x;", 7, api.ErrSyntax}, {"from a to when x;", 10, api.ErrSyntax}, {"from a to b, when x;", 13, api.ErrSyntax}, {"from a to b;", 11, api.ErrSyntax},
		{"from a to b when;", 16, api.ErrSyntax}, {"from a to b when x", 18, api.ErrSyntax}, {"from a to b when x y;", 19, api.ErrSyntax}, {"from a to b when x, y;", 18, api.ErrSyntax}, {"from a to b when (x;", 19, api.ErrSyntax}, {"from a to b when x);", 18, api.ErrSyntax}, {"from a to b when x := 1;", 19, api.ErrSyntax}, {"from a to b to c when x;", 12, api.ErrSyntax},
		{"from a to b when x; when y;", 20, api.ErrSyntax}, {"from a to b when not;", 20, api.ErrSyntax}, {"from a to b when x end", 19, api.ErrSyntax}, {"from (a, b) to c when x;", 5, api.ErrSyntax}, {"from a to b when f(x;", 20, api.ErrSyntax},
		{"macro", 5, api.ErrSyntax}, {"macro m;", 7, api.ErrSyntax}, {"macro m();", 8, api.ErrSyntax}, {"macro m(a);", 9, api.ErrSyntax}, {"macro m(a, );", 11, api.ErrSyntax}, {"macro m(a, b, c);", 12, api.ErrSyntax}, {"macro m(a, b", 12, api.ErrSyntax}, {"macro m(a b);", 10, api.ErrSyntax},
		{"macro m(a, b) step a;", 21, api.ErrSyntax}, {"macro m(a, b) step a; end", 25, api.ErrSyntax}, {"macro m(a, b); step a; end;", 13, api.ErrSyntax}, {"macro m(a, b) step a end;", 21, api.ErrSyntax}, {"macro m(a, b) step a; end step b;", 26, api.ErrSyntax}, {"macro m(a, b) step a; end; end;", 27, api.ErrSyntax},
		{"macro m(a, b) macro n(a, b) step a; end;", 40, api.ErrSyntax}, {"macro (a, b) step a; end;", 6, api.ErrSyntax}, {"macro m(a, b) exit; end;", 14, api.ErrSyntax}, {"macro macro(a, b)", 6, api.ErrSyntax},
		{"end", 0, api.ErrSyntax}, {";", 0, api.ErrSyntax}, {"a", 0, api.ErrSyntax}, {"x := 1;", 0, api.ErrSyntax}, {"sfc step a;", 0, api.ErrSyntax}, {"initial step a; end", 16, api.ErrSyntax}, {"initial step a;\n\nfrom a\nto 1", 27, api.ErrSyntax}, {"transition a to b when x;", 0, api.ErrSyntax},
		// Tokens come first, and what is not well formed comes last.
		{"step ; ?", 7, api.ErrSyntax}, {"initial step a; %", 16, api.ErrSyntax}, {"from a to a when x; from ;", 25, api.ErrSyntax}, {"step a; step a; step", 20, api.ErrSyntax}, {"from a to b when " + minus + "; x", 34, api.ErrSyntax}, {"step a do enter (x := " + minus + "; ;", 39, api.ErrSyntax},
		{strings.Repeat("step a;", 502) + "x", 7 * 502, api.ErrSyntax}, {"", 0, api.ErrFull}, {"// initial step a;", 0, api.ErrFull}, {"step a;", 0, api.ErrFull}, {strings.Repeat("?", api.MaxSource+1), 0, api.ErrFull}, {strings.Repeat("macro a(b,c)", 660), 7920, api.ErrSyntax},
	} {
		if c, at, e := chart.Read(x.source); e != x.e || at != x.at || !reflect.DeepEqual(c, api.Chart{}) {
			t.Errorf("Read(%.60q) = %v, %d, %d; want %d, %d", x.source, c, at, e, x.at, x.e)
		}
	}
}

var randomTokens = strings.Fields("x y a 1 t#5 true not or + ( ) [ ] , ; ; : := exit if then end_if initial step macro do while set limit_ delay enter leave from to when end %i1 sfc case")

// trial holds the reader against the grammar.
func trial(t *testing.T) ebnf.Trial {
	read := func(source string) (int, api.Errno) {
		c, at, err := chart.Read(source)
		if err != api.OK && !reflect.DeepEqual(c, api.Chart{}) {
			t.Errorf("%q has something with the error %d", source, err)
		}
		return at, err
	}
	return ebnf.Trial{Grammar: ebnf.Parse(ebnf.Charts + ebnf.Statements + ebnf.Expressions), Start: "chart", Part: "part", Most: 3, Tokens: randomTokens, Read: read, Complain: t.Error}
}

func TestFirstWrongToken(t *testing.T) {
	trial(t).Random(6000, rand.New(rand.NewSource(3)).Intn)
}

// TestFirstWrongTokenAnywhere puts each token behind each beginning of some sources, and one more behind that.
func TestFirstWrongTokenAnywhere(t *testing.T) {
	for _, source := range []string{
		"initial step a macro m do while q do limit_ t#5 r ; from a , b to c when not a ; macro m ( a , b ) step a ; end ;",
		"step a do set q do delay t#1 ( x [ ( 1 ) ] := f ( 2 ) ; if a then exit ; end_if ; ) do enter ( ) ; from a to b , c when a [ ( 1 ) ] = ( b ) ;",
		"macro m ( a , b ) macro n ( a , b ) from a to b when x ; end ; initial step a do leave ( t1 ( in := a ) ; ) ; end ;",
	} {
		trial(t).Behind(source)
	}
}

func TestAnySource(t *testing.T) {
	pieces := strings.Split("initial step a~step b~ macro m~ do~ while q~ set (~ limit_ t#5 q~enter (~x := 1;~)~;~;~from a~ to b~ when x~ when~macro m(a, b)~end~end;~,~(~ ~\n~?~1~//~\x00~\xff~initial step a;~step b;~from a to b when x;", "~")
	trial(t).Pieces(pieces, 20000, rand.New(rand.NewSource(4)).Intn)
}
