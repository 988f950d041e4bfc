package chart_test

import (
	"fmt"
	"math"
	"math/rand"
	"reflect"
	"slices"
	"strings"
	"testing"

	"winch/api"
	"winch/chart"
	"winch/print"
)

// write writes a chart in its own way, whatever it is; what there is no word for has the word "?".
func write(c api.Chart) string {
	var all strings.Builder
	for _, m := range c.Inner {
		all.WriteString("macro " + m.Name + "(" + m.In + "," + m.Out + ")" + write(m) + "end;")
	}
	for _, t := range c.Trans {
		when, _ := print.Expr(t.When)
		all.WriteString("from " + strings.Join(t.From, ",") + " to " + strings.Join(t.To, ",") + " when " + when + ";")
	}
	for _, s := range c.Steps {
		if s.Initial {
			all.WriteString("initial ")
		}
		all.WriteString("step " + s.Name)
		if s.Macro != "" {
			all.WriteString(" macro " + s.Macro)
		}
		for _, a := range s.Actions {
			all.WriteString(" do " + writeAction(a))
		}
		all.WriteString(";")
	}
	return all.String()
}

func writeAction(a api.Action) string {
	text := a.Name
	if a.Name == "" {
		body, _ := print.Text(a.Body)
		text = "(" + body + ")"
	}
	switch a.Q {
	case api.QLimit:
		return fmt.Sprint("limit_ t#", a.Time, " ", text)
	case api.QDelay:
		return fmt.Sprint("delay t#", a.Time, " ", text)
	}
	words := map[int]string{api.QWhile: "while ", api.QSet: "set ", api.QReset: "reset ", api.QEnter: "enter ", api.QLeave: "leave "}
	if words[a.Q] == "" {
		return "?"
	}
	return words[a.Q] + text
}

// canBeWritten reports whether reading what write makes of a chart gives it again.
func canBeWritten(c api.Chart) bool {
	got, _, err := chart.Read(write(c))
	return err == api.OK && reflect.DeepEqual(got, c)
}

// expectForm checks what is said of a chart by all functions that want a well formed one. (Some charts are too large to be
// flattened, or explored.)
func expectForm(t *testing.T, c api.Chart, want api.Errno) {
	t.Helper()
	text, e1 := chart.Text(c)
	if e := chart.Check(c); e != want || e1 != want || want != api.OK && text != "" {
		t.Errorf("%d steps: Check %d, Text %q, %d; want %d", len(c.Steps), e, text, e1, want)
	}
	f, e1 := chart.Flatten(c)
	next, e2 := chart.Next(c, nil, nil)
	reached, e3 := chart.Reached(c)
	alone, e4 := chart.Alone(c)
	for i, e := range of(e1, e2, e3, e4) {
		if (e == api.ErrArg) != (want == api.ErrArg) {
			t.Errorf("%d steps: function %d has %d; want %d", len(c.Steps), i, e, want)
		}
	}
	if want != api.OK && (!reflect.DeepEqual(f, api.Chart{}) || len(next) != 0 || len(reached) != 0 || alone) {
		t.Errorf("%d steps: %v, %v, %v, %v with an error", len(c.Steps), f, next, reached, alone)
	}
}

// TestWellFormed has sources of the grammar that are well formed or not, for each reason.
func TestWellFormed(t *testing.T) {
	minus := func(n int) string { return strings.Repeat("-", n) + "x" }
	steps := func(n int) string {
		var all strings.Builder
		for i := range n {
			all.WriteString(fmt.Sprint("step a", i, ";"))
		}
		return all.String()
	}
	nested := func(n int) string { return strings.Repeat("macro m(b, b) step b; ", n) + strings.Repeat("end;", n) }
	for _, x := range []struct {
		source string
		e      api.Errno
	}{
		{"", api.ErrFull}, {"step a;", api.ErrFull}, {"initial step a;", api.OK}, {"initial step a; initial step b;", api.OK}, {"step a; initial step b;", api.OK}, {"initial step a; initial step a;", api.ErrFull}, {"initial step a; step b; step a;", api.ErrFull},
		{"initial step a; step a do set q;", api.ErrFull}, {"macro m(a, a) step a; end;", api.ErrFull},
		// Actions.
		{"initial step a do set q do reset q;", api.OK}, {"initial step a do set ();", api.ErrFull}, {"initial step a do reset ();", api.ErrFull}, {"initial step a do set (q := 1;);", api.ErrFull}, {"initial step a do reset (q := 1;);", api.ErrFull}, {"initial step a do set a;", api.OK},
		{"initial step a do limit_ t#0 q do delay t#0 q;", api.OK}, {"initial step a do enter (case x of 1: 1: end_case; return; exit;);", api.OK},
		// Transitions.
		{"initial step a; from a to a when a;", api.OK}, {"initial step a; from a to a when a; from a to a when a;", api.OK}, {"initial step a; from a, a to a when x;", api.ErrFull}, {"initial step a; from a to a, a when x;", api.ErrFull}, {"initial step a; step b; from a, b, a to b when x;", api.ErrFull},
		{"initial step a; step b; from a, b to b, a when x;", api.OK}, {"initial step a; from b to a when x;", api.ErrFull}, {"initial step a; from a to b when x;", api.ErrFull}, {"initial step a; from a to a, b when x;", api.ErrFull}, {"initial step a; from a to m when x; macro m(b, b) step b; end;", api.ErrFull},
		{"initial step a; from a to b when x; macro m(b, b) step b; end;", api.ErrFull}, {"initial step a; from a to b when x; step b;", api.OK},
		// Macros.
		{"initial step a macro m;", api.ErrFull}, {"initial step a macro m; macro m(b, b) step b; end;", api.OK}, {"initial step a macro a; macro a(a, a) step a; end;", api.OK}, {"initial step a; macro m(b, b) step b; end;", api.OK}, {"initial step a macro m; macro n(b, b) step b; end;", api.ErrFull},
		{"initial step a macro m; step b macro m; macro m(b, b) step b; end;", api.ErrFull}, {"initial step a macro m; step b macro n; macro n(b, b) step b; end; macro m(b, b) step b; end;", api.OK}, {"initial step a macro m; macro m(b, b) step b; end; macro m(c, c) step c; end;", api.ErrFull},
		{"initial step a; macro m(b, b) step b; end; macro m(b, b) step b; end;", api.ErrFull}, {"initial step a macro m do set q; macro m(b, b) step b; end;", api.ErrFull}, {"initial step a macro m do while (); macro m(b, b) step b; end;", api.ErrFull},
		{"initial step a macro m; macro m(b, c) step b; end;", api.ErrFull}, {"initial step a macro m; macro m(c, b) step b; end;", api.ErrFull}, {"initial step a macro m; macro m(a, a) step b; end;", api.ErrFull}, {"initial step a macro m; macro m(b, b) end;", api.ErrFull}, {"initial step a macro m; macro m(b, c) step b; step c; end;", api.OK},
		{"initial step a macro m; macro m(b, b) initial step b; end;", api.ErrFull}, {"initial step a macro m; macro m(b, b) step b; initial step c; end;", api.ErrFull}, {"initial step a; macro m(b, b) step b; initial step c; end;", api.ErrFull}, {"step a macro m; macro m(b, b) initial step b; end;", api.ErrFull},
		{"initial step a macro m; macro m(b, b) step b macro n; macro n(c, c) step c; end; end;", api.ErrFull}, {"initial step a macro m; macro m(b, d) step b; step d macro n; macro n(c, c) step c; end; end;", api.ErrFull}, {"initial step a macro m; macro m(d, d) step b macro n; step d; macro n(c, c) step c; end; end;", api.OK},
		{"initial step a macro m; macro m(b, b) step b; step d macro m; macro m(b, b) step b; end; end;", api.OK}, {"initial step a macro n; macro m(b, b) step b; macro n(b, b) step b; end; end;", api.ErrFull}, {"initial step a macro m; macro m(b, b) step b; step c macro n; end; macro n(b, b) step b; end;", api.ErrFull},
		{"initial step a macro m; macro m(b, b) step b; step b; end;", api.ErrFull}, {"initial step a macro m; macro m(b, b) step b; step c; from b to a when x; end;", api.ErrFull}, {"initial step a macro m; macro m(b, b) step b; from b to b, b when x; end;", api.ErrFull},
		{"initial step a;" + nested(1), api.OK}, {"initial step a;" + nested(4), api.OK}, {"initial step a;" + nested(5), api.ErrFull}, {"initial step a;" + nested(300), api.ErrFull}, {"initial step a;" + nested(4) + strings.ReplaceAll(nested(4), "macro m", "macro n"), api.OK},
		// Nodes.
		{"initial step b;" + steps(499), api.OK}, {"initial step b;" + steps(500), api.ErrFull}, {"initial step b;" + steps(498) + "macro m(b, b) step b; end;", api.ErrFull}, {"initial step b;" + steps(497) + "macro m(b, b) step b; end;", api.OK}, {"initial step b;" + steps(497) + "from b to b when x;", api.OK},
		{"initial step b;" + steps(498) + "from b to b when x;", api.ErrFull}, {"initial step b;" + steps(497) + "from b to b when -x;", api.ErrFull}, {"initial step b;" + steps(496) + "from b to b when -x;", api.OK}, {"initial step b do set q;" + steps(498), api.OK}, {"initial step b do set q;" + steps(499), api.ErrFull},
		{"initial step b do set q do set q;" + steps(497), api.OK}, {"initial step b do enter ();" + steps(498), api.OK}, {"initial step b do enter (exit;);" + steps(497), api.OK}, {"initial step b do enter (exit;);" + steps(498), api.ErrFull}, {"initial step b do enter (x := 1;);" + steps(496), api.OK},
		{"initial step b do enter (x := 1;);" + steps(497), api.ErrFull}, {"initial step b do enter (case x of 1: end_case;);" + steps(495), api.OK}, {"initial step b do enter (case x of 1: end_case;);" + steps(496), api.ErrFull}, {"initial step a do enter (" + strings.Repeat("exit;", 498) + ");", api.OK},
		{"initial step a do enter (" + strings.Repeat("exit;", 499) + ");", api.ErrFull}, {"initial step a do enter (" + strings.Repeat("exit;", 501) + ");", api.ErrFull}, {"initial step a do enter (" + strings.Repeat("exit;", 250) + ") do leave (" + strings.Repeat("exit;", 247) + ");", api.OK},
		{"initial step a do enter (" + strings.Repeat("exit;", 250) + ") do leave (" + strings.Repeat("exit;", 248) + ");", api.ErrFull}, {"initial step a; from a to a when f(" + strings.Repeat("x,", 496) + "x);", api.OK}, {"initial step a; from a to a when f(" + strings.Repeat("x,", 497) + "x);", api.ErrFull},
		{"initial step a; from a to a when f(" + strings.Repeat("x,", 505) + "x);", api.ErrFull},
		// Depth: each list of statements begins with the depth 1, and so does each expression of a transition.
		{"initial step a; from a to a when " + minus(13) + ";", api.OK}, {"initial step a; from a to a when " + minus(14) + ";", api.ErrFull}, {"initial step a do enter (x := " + minus(12) + ";);", api.OK}, {"initial step a do enter (x := " + minus(13) + ";);", api.ErrFull},
		{"initial step a do enter (x := 1;) do leave (x := " + minus(12) + ";);", api.OK}, {"initial step a macro m; macro m(c, c) step b macro n; step c; macro n(d, d) step d do while (x := " + minus(12) + ";); from d to d when " + minus(13) + "; end; end;", api.OK},
		{"initial step a macro m; macro m(c, c) step b macro n; step c; macro n(d, d) step d; from d to d when " + minus(14) + "; end; end;", api.ErrFull}, {"initial step a do while (" + strings.Repeat("if a then ", 13) + "exit; " + strings.Repeat("end_if; ", 13) + ");", api.OK},
		{"initial step a do while (" + strings.Repeat("if a then ", 14) + "exit; " + strings.Repeat("end_if; ", 14) + ");", api.ErrFull}, {"initial step a; from a to a when " + strings.Repeat("(", 3900) + "a" + strings.Repeat(")", 3900) + ";", api.OK},
	} {
		c, at, e := chart.Read(x.source)
		if e != x.e || at != 0 || e != api.OK && !reflect.DeepEqual(c, api.Chart{}) {
			t.Errorf("Read(%.90q ... %.60q) = %d, %d; want %d", x.source, x.source[max(0, len(x.source)-60):], at, e, x.e)
		}
		if e == api.OK {
			expectForm(t, c, api.OK)
		}
	}
}

// TestWrongCharts has charts that no source has.
func TestWrongCharts(t *testing.T) {
	x := expr(t, "x")
	endless := api.Expr{Op: api.EAdd, Args: make([]api.Expr, 2)}
	endless.Args[0], endless.Args[1] = endless, endless
	deep := x
	for range 60000 {
		deep = api.Expr{Op: api.ENot, Args: of(deep)}
	}
	loop := api.Stmt{Op: api.SRepeat, Args: of(x), Body: make([]api.Stmt, 1)}
	loop.Body[0] = loop
	ring := api.Chart{Name: "m", In: "b", Out: "b", Steps: of(step("b")), Inner: make([]api.Chart, 2)}
	ring.Inner[0], ring.Inner[1] = ring, ring
	macro := api.Chart{Name: "m", In: "b", Out: "b", Steps: of(step("b"))}
	body := stmts(t, "x := 1;")
	act := func(a api.Action) api.Chart { return api.Chart{Steps: of(initial("a", a))} }
	with := func(t api.Trans) api.Chart { return api.Chart{Steps: of(initial("a"), step("b")), Trans: of(t)} }
	inner := func(m api.Chart) api.Chart { return api.Chart{Steps: of(initial("a")), Inner: of(m)} }
	wrong := []api.Chart{
		{}, {Steps: of(initial(""))}, {Steps: of(initial("if"))}, {Steps: of(initial("A"))}, {Steps: of(initial("thirteen_byte"))}, {Steps: of(initial("a b"))}, {Steps: of(initial("a"), api.Step{})}, {Steps: of(initial("a"), step("a"))},
		{Name: "m", Steps: of(initial("a"))}, {In: "a", Steps: of(initial("a"))}, {Out: "a", Steps: of(initial("a"))}, {Name: "m", In: "a", Out: "a", Steps: of(initial("a"))},
		act(api.Action{}), act(api.Action{Name: "q"}), act(api.Action{Name: "q", Q: 8}), act(api.Action{Name: "q", Q: -1}), act(api.Action{Name: "q", Q: math.MaxInt}), act(api.Action{Name: "q", Q: math.MinInt}), act(api.Action{Name: "if", Q: api.QSet}), act(api.Action{Name: "Q", Q: api.QSet}),
		act(api.Action{Name: "q", Q: api.QWhile, Time: 1}), act(api.Action{Name: "q", Q: api.QSet, Time: 1}), act(api.Action{Name: "q", Q: api.QReset, Time: -1}), act(api.Action{Name: "q", Q: api.QEnter, Time: 5}), act(api.Action{Name: "q", Q: api.QLeave, Time: 5}), act(api.Action{Name: "q", Q: api.QLimit, Time: -1}),
		act(api.Action{Name: "q", Q: api.QDelay, Time: -1}), act(api.Action{Name: "q", Q: api.QDelay, Time: math.MaxInt32 + 1}), act(api.Action{Name: "q", Q: api.QLimit, Time: math.MaxInt}), act(api.Action{Name: "q", Q: api.QLimit, Time: math.MinInt}),
		act(api.Action{Q: api.QSet}), act(api.Action{Q: api.QReset}), act(api.Action{Q: api.QSet, Body: body}), act(api.Action{Q: api.QReset, Body: body}), act(api.Action{Name: "q", Q: api.QWhile, Body: body}), act(api.Action{Name: "q", Q: api.QDelay, Body: body}), act(api.Action{Name: "q", Q: api.QSet, Body: body}),
		act(api.Action{Q: api.QEnter, Body: of(api.Stmt{})}), act(api.Action{Q: api.QEnter, Body: of(loop)}), act(api.Action{Q: api.QWhile, Time: 1}), act(api.Action{Q: 0, Body: body}), act(api.Action{Q: 8, Body: body}), act(api.Action{Q: api.QEnter, Body: append(body, api.Stmt{Op: api.SExit, N: 1})}),
		act(api.Action{Q: api.QEnter, Body: slices.Repeat(body, 1<<16)}), {Steps: of(initial("a", slices.Repeat(of(api.Action{Name: "q", Q: api.QSet}), 1<<16)...))},
		with(api.Trans{}), with(api.Trans{From: of("a"), When: x}), with(api.Trans{To: of("a"), When: x}), with(api.Trans{From: of("a"), To: of("b")}), with(api.Trans{From: of("a", "a"), To: of("b"), When: x}), with(api.Trans{From: of("a"), To: of("b", "b"), When: x}), with(api.Trans{From: of("a", ""), To: of("b"), When: x}),
		with(api.Trans{From: of("a"), To: of("c"), When: x}), with(api.Trans{From: of("c"), To: of("a"), When: x}), with(api.Trans{From: of("a"), To: of(""), When: x}), with(api.Trans{From: of("a"), To: of("b"), When: endless}), with(api.Trans{From: of("a"), To: of("b"), When: deep}),
		with(api.Trans{From: of("a"), To: of("b"), When: api.Expr{Op: api.EConst, Kind: api.KInt, N: -1}}), with(api.Trans{From: slices.Repeat(of("a"), 1<<16), To: of("b"), When: x}), with(api.Trans{From: of("a"), To: slices.Repeat(of("c"), 1<<16), When: x}),
		inner(api.Chart{}), inner(api.Chart{In: "b", Out: "b", Steps: of(step("b"))}), inner(api.Chart{Name: "if", In: "b", Out: "b", Steps: of(step("b"))}), inner(api.Chart{Name: "m", Out: "b", Steps: of(step("b"))}), inner(api.Chart{Name: "m", In: "b", Steps: of(step("b"))}), inner(api.Chart{Name: "m", In: "a", Out: "a"}),
		inner(api.Chart{Name: "m", In: "b", Out: "b", Steps: of(initial("b"))}), inner(ring), ring, {Steps: of(initial("a"), api.Step{Name: "b", Macro: "m"})}, {Steps: of(initial("a"), api.Step{Name: "b", Macro: "?"}), Inner: of(macro)}, {Steps: of(initial("a")), Inner: of(macro, macro)},
		{Steps: of(initial("a"), api.Step{Name: "b", Macro: "m", Actions: of(api.Action{Name: "q", Q: api.QSet})}), Inner: of(macro)}, {Steps: of(initial("a"), api.Step{Name: "b", Macro: "m"}, api.Step{Name: "c", Macro: "m"}), Inner: of(macro)},
		{Steps: append(slices.Repeat(of(step("b")), 1<<16), initial("a"))}, {Steps: of(initial("a")), Inner: slices.Repeat(of(macro), 1<<16)}, {Steps: of(initial("a")), Trans: slices.Repeat(of(api.Trans{From: of("a"), To: of("a"), When: x}), 1<<16)},
	}
	for i, c := range wrong {
		t.Run(fmt.Sprint(i), func(t *testing.T) {
			expectForm(t, c, api.ErrArg)
			c.Name, c.In, c.Out = "n", "a", "a"
			expectForm(t, api.Chart{Steps: of(initial("a")), Inner: of(macro, c)}, api.ErrArg)
		})
	}
	expectForm(t, api.Chart{Steps: of(step("a"))}, api.ErrArg)
	// An empty list is as good as none.
	full := api.Chart{Steps: of(api.Step{Name: "a", Initial: true, Actions: []api.Action{}}, step("b", api.Action{Name: "q", Q: api.QSet, Body: []api.Stmt{}})), Trans: []api.Trans{}, Inner: []api.Chart{}}
	expectForm(t, full, api.OK)
	if plain := read(t, "initial step a; step b do set q;"); !chart.Same(full, plain) || !chart.Same(plain, full) {
		t.Error("an empty list is equal to nil")
	}
	if a, b := with(api.Trans{When: deep}), with(api.Trans{When: deep.Args[0]}); !chart.Same(a, a) || chart.Same(a, b) {
		t.Error("Same of deep ones")
	}
}

const someSource = "initial step a do while q do set q do reset q do limit_ t#5 q do delay t#6 q do enter q do leave q; step b do enter (x := 1;) do limit_ t#5 () do while (exit;); step c macro m; initial step d macro n;" +
	" from a to b, c when x; from a, b to c when not x; from d to d when 1 < 2; macro m(a, b) step a; step b; from a to b when x; end; macro n(a, a) step a; step b macro m; macro m(a, a) step a do set q; end; end; macro o(a, a) step a; end;"

// changesOfStep are changes of single fields of a step with an action, each of which may or may not fit.
func changesOfStep(t *testing.T) map[string]func(*api.Step, *api.Action) {
	body := stmts(t, "z := 1;")
	return map[string]func(*api.Step, *api.Action){
		"name": func(s *api.Step, a *api.Action) { s.Name += "z" }, "no name": func(s *api.Step, a *api.Action) { s.Name = "" }, "other name": func(s *api.Step, a *api.Action) { s.Name = "a" }, "initial": func(s *api.Step, a *api.Action) { s.Initial = !s.Initial },
		"macro": func(s *api.Step, a *api.Action) { s.Macro += "m" }, "free macro": func(s *api.Step, a *api.Action) { s.Macro = "o" }, "no macro": func(s *api.Step, a *api.Action) { s.Macro = "" }, "action": func(s *api.Step, a *api.Action) { s.Actions = append(s.Actions, api.Action{Name: "z", Q: api.QEnter}) },
		"no actions": func(s *api.Step, a *api.Action) { s.Actions = nil }, "variable": func(s *api.Step, a *api.Action) { a.Name += "z" }, "no variable": func(s *api.Step, a *api.Action) { a.Name = "" }, "q": func(s *api.Step, a *api.Action) { a.Q++ }, "less q": func(s *api.Step, a *api.Action) { a.Q-- },
		"time": func(s *api.Step, a *api.Action) { a.Time++ }, "less time": func(s *api.Step, a *api.Action) { a.Time -= 6 }, "body": func(s *api.Step, a *api.Action) { a.Body = append(slices.Clone(a.Body), body...) }, "no body": func(s *api.Step, a *api.Action) { a.Body = nil },
	}
}

// changesOfChart are changes of single fields of a chart with a transition.
func changesOfChart(t *testing.T) map[string]func(*api.Chart, *api.Trans) {
	return map[string]func(*api.Chart, *api.Trans){
		"name": func(c *api.Chart, x *api.Trans) { c.Name += "z" }, "no name": func(c *api.Chart, x *api.Trans) { c.Name = "" }, "in": func(c *api.Chart, x *api.Trans) { c.In += "z" }, "other in": func(c *api.Chart, x *api.Trans) { c.In = "b" }, "out": func(c *api.Chart, x *api.Trans) { c.Out = "" }, "other out": func(c *api.Chart, x *api.Trans) { c.Out = "b" },
		"step": func(c *api.Chart, x *api.Trans) { c.Steps = append(slices.Clone(c.Steps), step("z")) }, "twice": func(c *api.Chart, x *api.Trans) { c.Steps = append(slices.Clone(c.Steps), c.Steps[0]) }, "initial": func(c *api.Chart, x *api.Trans) { c.Steps = append(slices.Clone(c.Steps), initial("z")) }, "no steps": func(c *api.Chart, x *api.Trans) { c.Steps = nil },
		"trans": func(c *api.Chart, x *api.Trans) {
			c.Trans = append(slices.Clone(c.Trans), api.Trans{From: of("a"), To: of("a"), When: expr(t, "z")})
		}, "no trans": func(c *api.Chart, x *api.Trans) { c.Trans = nil },
		"macro": func(c *api.Chart, x *api.Trans) {
			c.Inner = append(slices.Clone(c.Inner), api.Chart{Name: "z", In: "a", Out: "a", Steps: of(step("a"))})
		}, "no macros": func(c *api.Chart, x *api.Trans) { c.Inner = nil },
		"from": func(c *api.Chart, x *api.Trans) { x.From = append(slices.Clone(x.From), "b") }, "less from": func(c *api.Chart, x *api.Trans) { x.From = x.From[:len(x.From)-1] }, "to": func(c *api.Chart, x *api.Trans) { x.To = append(slices.Clone(x.To), "a") }, "less to": func(c *api.Chart, x *api.Trans) { x.To = x.To[:len(x.To)-1] },
		"other from": func(c *api.Chart, x *api.Trans) { x.From = of("z") }, "other to": func(c *api.Chart, x *api.Trans) { x.To = of("z") }, "when": func(c *api.Chart, x *api.Trans) { x.When = expr(t, "z") }, "no when": func(c *api.Chart, x *api.Trans) { x.When = api.Expr{} },
	}
}

// expectChanged checks a changed chart against the one it was, and reports whether it is well formed.
func expectChanged(t *testing.T, what string, c, whole api.Chart) bool {
	can := canBeWritten(c)
	if (chart.Check(c) == api.OK) != can {
		t.Errorf("with another %s: Check(%v) = %d", what, c, chart.Check(c))
	}
	if same := reflect.DeepEqual(c, whole); chart.Same(c, whole) != same || chart.Same(whole, c) != same || !chart.Same(c, c) {
		t.Errorf("with another %s: Same of %v", what, c)
	}
	return can
}

// TestChanged changes fields of charts, and expects that only those are well formed that can be read.
func TestChanged(t *testing.T) {
	whole := read(t, someSource)
	expectForm(t, whole, api.OK)
	good := 0
	// charts returns the charts in a chart, with itself.
	var charts func(c *api.Chart) []*api.Chart
	charts = func(c *api.Chart) []*api.Chart {
		l := of(c)
		for i := range c.Inner {
			l = append(l, charts(&c.Inner[i])...)
		}
		return l
	}
	for i, c := range charts(&whole) {
		for what, change := range changesOfStep(t) {
			for j := range c.Steps {
				for k := range max(1, len(c.Steps[j].Actions)) {
					fresh := read(t, someSource)
					s := &charts(&fresh)[i].Steps[j]
					a := &api.Action{}
					if len(s.Actions) > 0 {
						a = &s.Actions[k]
					}
					change(s, a)
					if expectChanged(t, what, fresh, whole) {
						good++
					}
				}
			}
		}
		for what, change := range changesOfChart(t) {
			for j := range max(1, len(c.Trans)) {
				fresh := read(t, someSource)
				x := &api.Trans{From: of("a"), To: of("a")}
				if d := charts(&fresh)[i]; len(d.Trans) > 0 {
					x = &d.Trans[j]
				}
				change(charts(&fresh)[i], x)
				if expectChanged(t, what, fresh, whole) {
					good++
				}
			}
		}
	}
	if good < 100 {
		t.Errorf("only %d good ones", good)
	}
}

func TestSame(t *testing.T) {
	l := []api.Chart{{}, {Name: "?"}, {In: "?"}, {Out: "?"}, {Steps: of(api.Step{})}, {Steps: of(api.Step{}, api.Step{})}, {Steps: of(step("?"))}, {Steps: of(api.Step{Initial: true})}, {Steps: of(api.Step{Macro: "?"})}, {Steps: of(step("", api.Action{}))}, {Steps: of(step("", api.Action{Name: "?"}))},
		{Steps: of(step("", api.Action{Q: -1}))}, {Steps: of(step("", api.Action{Time: math.MinInt}))}, {Steps: of(step("", api.Action{Body: of(api.Stmt{})}))}, {Steps: of(step("", api.Action{Body: of(api.Stmt{Op: -1})}))}, {Trans: of(api.Trans{})}, {Trans: of(api.Trans{From: of("")})}, {Trans: of(api.Trans{From: of("?")})},
		{Trans: of(api.Trans{To: of("")})}, {Trans: of(api.Trans{To: of("?")})}, {Trans: of(api.Trans{When: api.Expr{Op: -1}})}, {Inner: of(api.Chart{})}, {Inner: of(api.Chart{}, api.Chart{})}, {Inner: of(api.Chart{Name: "?"})}, {Inner: of(api.Chart{Inner: of(api.Chart{})})}, {Inner: of(api.Chart{Steps: of(api.Step{})})}}
	for i, a := range l {
		for j, b := range l {
			if chart.Same(a, b) != (i == j) {
				t.Errorf("Same(%v, %v)", a, b)
			}
		}
	}
	empty := api.Chart{Steps: of(api.Step{Actions: []api.Action{}}), Trans: of(api.Trans{From: []string{}, To: []string{}}), Inner: []api.Chart{}}
	if !chart.Same(empty, api.Chart{Steps: of(api.Step{}), Trans: of(api.Trans{})}) {
		t.Error("an empty list is equal to nil")
	}
}

// randomChart returns a chart, or, from the depth 1 on, a macro, that is perhaps not well formed.
func randomChart(r *rand.Rand, depth int) api.Chart {
	var c api.Chart
	body := []api.Stmt{{Op: api.SReturn}, {Op: api.SRepeat, Args: of(api.Expr{Op: api.EName, S: "x"}), Body: of(api.Stmt{Op: api.SExit})}}
	var names []string
	for i := range 1 + r.Intn(4) {
		s := step(string(rune('a'+i)) + []string{"", "_a", "leven_bytes"}[r.Intn(3)])
		s.Initial = depth == 0 && (i == 0 || r.Intn(3) == 0)
		if depth < 3 && i > 0 && r.Intn(3) == 0 {
			m := randomChart(r, depth+1)
			m.Name, s.Macro = s.Name, s.Name
			c.Inner = append(c.Inner, m)
		}
		for range r.Intn(4) * r.Intn(2) {
			a := api.Action{Q: 1 + r.Intn(7), Name: "q"}
			if a.Q == api.QLimit || a.Q == api.QDelay {
				a.Time = r.Intn(1000)
			}
			if r.Intn(2) == 0 && a.Q != api.QSet && a.Q != api.QReset {
				a.Name, a.Body = "", body[r.Intn(3):]
				if len(a.Body) == 0 {
					a.Body = nil
				}
			}
			if s.Macro == "" || r.Intn(5) == 0 {
				s.Actions = append(s.Actions, a)
			}
		}
		c.Steps = append(c.Steps, s)
		names = append(names, s.Name)
	}
	if depth > 0 {
		c.In, c.Out = names[0], names[r.Intn(len(names))]
		if r.Intn(4) > 0 {
			c.Out = c.In
		}
	}
	some := func() []string {
		var l []string
		for _, i := range r.Perm(len(names))[:1+r.Intn(min(2, len(names)))] {
			l = append(l, names[i])
		}
		return l
	}
	for range r.Intn(4) {
		c.Trans = append(c.Trans, api.Trans{From: some(), To: some(), When: api.Expr{Op: api.EName, S: string(rune('u' + r.Intn(5)))}})
	}
	return c
}

// TestChartsAgain is about P7.6: what is written is read again, and written in the same way.
func TestChartsAgain(t *testing.T) {
	r := rand.New(rand.NewSource(5))
	good := 0
	for range 6000 {
		c := randomChart(r, 0)
		text, err := chart.Text(c)
		if (err == api.OK) != canBeWritten(c) || (chart.Check(c) == api.OK) != (err == api.OK) {
			t.Fatalf("Text(%v) = %q, %d", c, text, err)
		}
		if err != api.OK {
			continue
		}
		good++
		got, _, err := chart.Read(text)
		again, _ := chart.Text(got)
		if err != api.OK || !chart.Same(got, c) || again != text || strings.Count(text, "\n") != len(c.Steps)+len(c.Trans)+len(c.Inner) {
			t.Fatalf("%q is read as %v, %d", text, got, err)
		}
	}
	if good < 1000 || good > 5500 {
		t.Errorf("%d good charts", good)
	}
}
