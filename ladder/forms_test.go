package ladder_test

import (
	"fmt"
	"math"
	"math/rand"
	"reflect"
	"slices"
	"strings"
	"testing"

	"winch/api"
	"winch/ladder"
	"winch/print"
)

// write writes rungs in its own way, whatever they are; what there is no sign for has the sign "?".
func write(l []api.Rung) string {
	var all strings.Builder
	for _, x := range l {
		var coils []string
		for _, c := range x.Coils {
			coils = append(coils, markOf(c.Mark)+" "+c.Name)
		}
		all.WriteString("rung " + x.Label + ":" + writePower(x.Power) + "->" + strings.Join(coils, ",") + ";")
	}
	return all.String()
}

func markOf(mark int) string {
	if mark < 0 || mark > api.MReturn {
		return "?"
	}
	return []string{"", "/", "+", "-", "set", "reset", "jump", "return"}[mark]
}

func writePower(p api.Power) string {
	var parts []string
	for _, x := range p.Parts {
		parts = append(parts, "("+writePower(x)+")")
	}
	switch p.Op {
	case api.PTrue:
		return "true"
	case api.PContact:
		return markOf(p.Mark) + p.Name
	case api.PCompare:
		return "[" + writeExpr(p.Arg[0]) + "]"
	case api.PSeries:
		return strings.Join(parts, "&")
	case api.PParallel:
		return strings.Join(parts, "|")
	case api.PBox:
		text := "box " + p.Name + "(" + p.Fields[0]
		for i, e := range p.Args {
			text += "," + p.Fields[i+1] + ":=" + writeExpr(e)
		}
		return text + ")." + p.Out
	}
	return "?"
}

func writeExpr(e api.Expr) string {
	text, _ := print.Expr(e)
	return text
}

// canBeWritten reports whether reading what write makes of a ladder gives it again.
func canBeWritten(l []api.Rung) (can bool) {
	defer func() {
		if recover() != nil {
			can = false
		}
	}()
	got, _, err := ladder.Read(write(l))
	return err == api.OK && reflect.DeepEqual(got, l)
}

// expectForm checks what is said of a ladder by all functions that want a well formed one. (It does not write the ladder, which may
// contain itself.)
func expectForm(t *testing.T, l []api.Rung, want api.Errno) {
	t.Helper()
	text, e1 := ladder.Text(l)
	edges, e2 := ladder.Edges(l)
	if e := ladder.Check(l); e != want || e1 != want || e2 != want {
		t.Errorf("%d rungs: Check %d, Text %d, Edges %d; want %d", len(l), e, e1, e2, want)
	}
	if want != api.OK && (text != "" || len(edges) != 0) {
		t.Errorf("%d rungs: Text %q, Edges %v", len(l), text, edges)
	}
}

// expectPower checks what is said of an element by all functions that want one of a well formed ladder.
func expectPower(t *testing.T, p api.Power, want api.Errno) {
	t.Helper()
	q, e1 := ladder.Flat(p)
	paths, e2 := ladder.Paths(p)
	if e1 != want || e2 != want {
		t.Errorf("Op %d: Flat %d, Paths %d; want %d", p.Op, e1, e2, want)
	}
	if want != api.OK && (!reflect.DeepEqual(q, api.Power{}) || len(paths) != 0) {
		t.Errorf("Op %d: Flat and %d paths with an error", p.Op, len(paths))
	}
}

// alone returns a ladder of one rung with an element.
func alone(p api.Power) []api.Rung {
	return of(api.Rung{Power: p, Coils: of(coil(api.MPlain, "q"))})
}

// nested returns a source of an element that has a depth, with another one in its innermost place.
func nested(depth int, inner string) string {
	text := inner
	for i := depth - 1; i > 0; i-- {
		text = "a " + []string{"&", "|"}[i%2] + " (" + text + ")"
	}
	return text
}

// TestWellFormed has sources of the grammar that are well formed or not, for each reason.
func TestWellFormed(t *testing.T) {
	minus := func(n int) string { return strings.Repeat("-", n) + "a" }
	for _, x := range []struct {
		source string
		e      api.Errno
	}{
		{"rung x: a -> q; rung x: a -> q;", api.ErrFull}, {"rung x: a -> q; rung y: a -> q; rung: a -> q; rung x: a -> q;", api.ErrFull}, {"rung x: a -> q; rung y: a -> q;", api.OK}, {"rung: a -> q; rung: a -> q;", api.OK},
		{"rung x: x -> x;", api.OK}, {"rung: a -> jump x;", api.ErrFull}, {"rung: a -> jump x; rung x: a -> q;", api.OK}, {"rung x: a -> jump x;", api.ErrFull}, {"rung x: a -> q; rung: a -> jump x;", api.ErrFull},
		{"rung: a -> jump x; rung: a -> jump x; rung x: a -> q;", api.OK}, {"rung: a -> jump x; rung x: a -> jump x; rung: a -> q;", api.ErrFull}, {"rung: a -> jump x; rung y: a -> q;", api.ErrFull},
		{"rung: a -> jump y; rung x: a -> jump z; rung y: a -> q; rung z: a -> return;", api.OK}, {"rung: x -> x; rung: a -> set x;", api.OK},
		{"rung: a -> return;", api.OK}, {"rung: a -> q, return;", api.OK}, {"rung: a -> return, q;", api.ErrFull}, {"rung: a -> return, return;", api.ErrFull}, {"rung: a -> q, return, q;", api.ErrFull},
		{"rung: a -> jump x, q; rung x: a -> q;", api.ErrFull}, {"rung: a -> jump x, return; rung x: a -> q;", api.ErrFull}, {"rung: a -> return, jump x; rung x: a -> q;", api.ErrFull}, {"rung: a -> q, q, jump x; rung x: a -> q;", api.OK},
		{"rung: a -> jump x, jump x; rung x: a -> q;", api.ErrFull}, {"rung: a -> q; rung: a -> return, q;", api.ErrFull}, {"rung: a -> q, q, q;", api.OK},
		{"rung: box f(in, in := 1, in := 2).in -> q;", api.OK},
		// Nodes: a rung, its element and its coil are three.
		{strings.Repeat("rung: a -> q;", 166) + "rung: a -> q;", api.ErrFull}, {strings.Repeat("rung: a -> q;", 166), api.OK}, {strings.Repeat("rung: a -> q;", 165) + "rung: a -> q, q, q;", api.OK},
		{strings.Repeat("rung: a -> q;", 165) + "rung: a -> q, q, q, q;", api.ErrFull}, {strings.Repeat("rung: a -> q;", 165) + "rung: [a] & true -> return;", api.ErrFull}, {strings.Repeat("rung: a -> q;", 165) + "rung: [a] -> q, return;", api.OK},
		{strings.Repeat("rung: a -> q;", 165) + "rung: [-a] -> q;", api.OK}, {strings.Repeat("rung: a -> q;", 165) + "rung: [--a] -> q;", api.ErrFull}, {strings.Repeat("rung: a -> q;", 165) + "rung: box f(in, a := 1, b := 2).q -> q;", api.OK},
		{strings.Repeat("rung: a -> q;", 165) + "rung: box f(in, a := 1, b := -2).q -> q;", api.ErrFull}, {strings.Repeat("rung: a -> q;", 165) + "rung: a & (b) -> q;", api.OK}, {strings.Repeat("rung: a -> q;", 165) + "rung: a | (b | c) -> q;", api.ErrFull},
		{"rung: " + strings.Repeat("a & ", 496) + "a -> q;", api.OK}, {"rung: " + strings.Repeat("a & ", 497) + "a -> q;", api.ErrFull}, {"rung: " + strings.Repeat("a | ", 496) + "a -> q;", api.OK}, {"rung: " + strings.Repeat("a | ", 497) + "a -> q;", api.ErrFull},
		{"rung: a -> " + strings.Repeat("q, ", 497) + "q;", api.OK}, {"rung: a -> " + strings.Repeat("q, ", 498) + "q;", api.ErrFull}, {"rung: [f(" + strings.Repeat("a, ", 495) + "a)] -> q;", api.OK}, {"rung: [f(" + strings.Repeat("a, ", 496) + "a)] -> q;", api.ErrFull},
		{"rung: [f(" + strings.Repeat("a, ", 505) + "a)] -> q;", api.ErrFull}, {"rung: " + strings.Repeat("(", 3900) + "a" + strings.Repeat(")", 3900) + " -> q;", api.OK},
		// Depth: the element of a rung has the depth 1.
		{"rung: " + nested(14, "a") + " -> q;", api.OK}, {"rung: " + nested(15, "a") + " -> q;", api.ErrFull}, {"rung: " + nested(13, "[a]") + " -> q;", api.OK}, {"rung: " + nested(14, "[a]") + " -> q;", api.ErrFull},
		{"rung: " + nested(14, "box f(in).q") + " -> q;", api.OK}, {"rung: " + nested(13, "box f(in, a := 1).q") + " -> q;", api.OK}, {"rung: " + nested(14, "box f(in, a := 1).q") + " -> q;", api.ErrFull},
		{"rung: [" + minus(12) + "] -> q;", api.OK}, {"rung: [" + minus(13) + "] -> q;", api.ErrFull}, {"rung: [" + minus(14) + "] -> q;", api.ErrFull}, {"rung: a & [" + minus(11) + "] -> q;", api.OK}, {"rung: a & [" + minus(12) + "] -> q;", api.ErrFull},
		{"rung: box f(in, a := " + minus(12) + ").q -> q;", api.OK}, {"rung: box f(in, a := 1, b := " + minus(13) + ").q -> q;", api.ErrFull},
	} {
		l, at, e := ladder.Read(x.source)
		if e != x.e || at != 0 || e != api.OK && len(l) != 0 {
			t.Errorf("Read(%.70q ... %.40q) = %d rungs, %d, %d; want %d", x.source, x.source[max(0, len(x.source)-40):], len(l), at, e, x.e)
		}
		if e == api.OK {
			expectForm(t, l, api.OK)
		}
	}
}

// TestWrongStructure has rungs that are right one by one.
func TestWrongStructure(t *testing.T) {
	a := plain("a")
	rung := func(label string, coils ...api.Coil) api.Rung { return api.Rung{Label: label, Power: a, Coils: coils} }
	q, jump, leave := coil(api.MPlain, "q"), coil(api.MJump, "x"), coil(api.MReturn, "")
	for _, l := range [][]api.Rung{nil, {}, {rung("", q)}, {rung("x", q), rung("", q), rung("", q), rung("y", q)}, {rung("", jump), rung("x", q)}, {rung("", q, jump), rung("", q, jump), rung("x", q, leave)},
		slices.Repeat(of(rung("", q)), 166), {rung("", slices.Repeat(of(q), 498)...)}} {
		expectForm(t, l, api.OK)
	}
	for _, l := range [][]api.Rung{{rung("")}, {rung("", q), rung("")}, {rung("x", q), rung("x", q)}, {rung("x", q), rung("", q), rung("x", q)}, {rung("", jump)}, {rung("x", jump)}, {rung("x", q), rung("", jump)},
		{rung("", jump), rung("y", q)}, {rung("", jump, q), rung("x", q)}, {rung("", leave, q)}, {rung("", leave, leave)}, {rung("", jump, leave), rung("x", q)},
		slices.Repeat(of(rung("", q)), 167), slices.Repeat(of(rung("", q)), 100000), {rung("", slices.Repeat(of(q), 499)...)}, {rung("", slices.Repeat(of(q), 100000)...)}, slices.Repeat(of(rung("", q)), 1<<20)} {
		expectForm(t, l, api.ErrArg)
	}
}

func TestWrongRungs(t *testing.T) {
	a, q := plain("a"), of(coil(api.MPlain, "q"))
	for i, x := range []api.Rung{
		{}, {Power: a}, {Power: a, Coils: []api.Coil{}}, {Coils: q}, {Label: "rung", Power: a, Coils: q}, {Label: "X", Power: a, Coils: q}, {Label: "thirteen_byte", Power: a, Coils: q}, {Label: "1", Power: a, Coils: q}, {Label: "a b", Power: a, Coils: q},
		{Power: a, Coils: of(api.Coil{})}, {Power: a, Coils: of(coil(api.MPlain, "if"))}, {Power: a, Coils: of(coil(-1, "q"))}, {Power: a, Coils: of(coil(8, "q"))}, {Power: a, Coils: of(coil(math.MinInt, "q"))}, {Power: a, Coils: of(coil(math.MaxInt, "q"))},
		{Power: a, Coils: of(coil(api.MReturn, "q"))}, {Power: a, Coils: of(coil(api.MJump, ""))}, {Power: a, Coils: of(coil(api.MSet, ""))}, {Power: a, Coils: of(coil(api.MReset, "A"))}, {Power: a, Coils: of(coil(api.MNot, "set"))}, {Power: a, Coils: append(of(coil(api.MPlain, "")), q...)},
	} {
		good := api.Rung{Power: a, Coils: q}
		for j, l := range [][]api.Rung{{x}, {good, x}, {x, good}} {
			t.Run(fmt.Sprintf("%d, %d", i, j), func(t *testing.T) { expectForm(t, l, api.ErrArg) })
		}
	}
}

func wrongElements(t *testing.T) []api.Power {
	a, b := plain("a"), plain("b")
	e := of(expr(t, "x"))
	itself := series(a, a)
	itself.Parts[0], itself.Parts[1] = itself, itself
	twice := parallel(a, a)
	for range 60 {
		twice = parallel(twice, twice)
	}
	endless := api.Expr{Op: api.EAdd, Args: make([]api.Expr, 2)}
	endless.Args[0], endless.Args[1] = endless, endless
	box := func(name, out string, fields []string, args ...api.Expr) api.Power {
		return api.Power{Op: api.PBox, Name: name, Out: out, Fields: fields, Args: args}
	}
	return []api.Power{
		{}, {Op: -1}, {Op: 7, Name: "a"}, {Op: math.MaxInt}, {Op: math.MinInt, Parts: of(a, b)},
		{Op: api.PTrue, Name: "a"}, {Op: api.PTrue, Mark: api.MNot}, {Op: api.PTrue, Arg: e}, {Op: api.PTrue, Parts: of(a, b)}, {Op: api.PTrue, Fields: of("a")}, {Op: api.PTrue, Args: e}, {Op: api.PTrue, Out: "q"},
		contact(api.MPlain, ""), contact(api.MPlain, "true"), contact(api.MPlain, "A"), contact(api.MPlain, "thirteen_byte"), contact(api.MSet, "a"), contact(api.MReset, "a"), contact(api.MJump, "a"), contact(api.MReturn, ""), contact(-1, "a"), contact(8, "a"),
		contact(math.MinInt, "a"), contact(api.MNot, "or"), {Op: api.PContact, Name: "a", Arg: e}, {Op: api.PContact, Name: "a", Fields: of("a")}, {Op: api.PContact, Name: "a", Args: e}, {Op: api.PContact, Name: "a", Out: "q"}, {Op: api.PContact, Name: "a", Parts: of(a, b)},
		{Op: api.PCompare}, {Op: api.PCompare, Arg: of(e[0], e[0])}, {Op: api.PCompare, Arg: of(api.Expr{})}, {Op: api.PCompare, Arg: of(endless)}, {Op: api.PCompare, Name: "a", Arg: e}, {Op: api.PCompare, Mark: 1, Arg: e}, {Op: api.PCompare, Args: e}, {Op: api.PCompare, Arg: e, Args: e},
		{Op: api.PCompare, Arg: e, Parts: of(a, b)}, {Op: api.PCompare, Arg: e, Out: "q"}, {Op: api.PCompare, Arg: e, Fields: of("a")}, {Op: api.PCompare, Arg: of(api.Expr{Op: api.EConst, Kind: api.KInt, N: -1})},
		series(), series(a), series(a, api.Power{}), series(api.Power{}, a), {Op: api.PSeries, Name: "a", Parts: of(a, b)}, {Op: api.PSeries, Mark: 1, Parts: of(a, b)}, {Op: api.PSeries, Arg: e, Parts: of(a, b)}, {Op: api.PSeries, Out: "q", Parts: of(a, b)},
		parallel(), parallel(a), parallel(a, contact(9, "a")), parallel(a, series(b)), {Op: api.PParallel, Fields: of("a"), Parts: of(a, b)}, {Op: api.PParallel, Args: e, Parts: of(a, b)}, {Op: api.PParallel, Name: "a", Parts: of(a, b)},
		box("f", "q", nil), box("f", "", of("in")), box("", "q", of("in")), box("f", "q", of("")), box("f", "q", of("or")), box("if", "q", of("in")), box("f", "end", of("in")), box("f", "q", of("in", "a")), box("f", "q", of("in"), e...),
		box("f", "q", of("in", "1"), e...), box("f", "q", of("in", "a"), api.Expr{}), box("f", "q", of("in", "a"), endless), box("f", "q", nil, e...), {Op: api.PBox, Name: "f", Out: "q", Fields: of("in"), Mark: 1},
		{Op: api.PBox, Name: "f", Out: "q", Fields: of("in"), Arg: e}, {Op: api.PBox, Name: "f", Out: "q", Fields: of("in"), Parts: of(a, b)},
		itself, twice, series(slices.Repeat(of(a), 498)...), parallel(slices.Repeat(of(a), 100000)...), {Op: api.PCompare, Arg: of(api.Expr{Op: api.ECall, S: "f", Args: slices.Repeat(e, 497)})},
	}
}

func TestWrongElements(t *testing.T) {
	a := plain("a")
	for i, p := range wrongElements(t) {
		for j, q := range []api.Power{p, series(a, p), series(p, a), parallel(a, series(a, p), a)} {
			t.Run(fmt.Sprintf("%d, %d", i, j), func(t *testing.T) {
				expectForm(t, alone(q), api.ErrArg)
				expectPower(t, q, api.ErrArg)
			})
		}
	}
	deep, deeper := power(t, nested(14, "a")), series(a, power(t, nested(14, "a")))
	expectPower(t, deep, api.OK)
	expectForm(t, alone(deeper), api.ErrArg)
	expectPower(t, deeper, api.ErrArg)
	for range 60000 {
		deep = series(a, deep)
	}
	expectForm(t, alone(deep), api.ErrArg)
	expectPower(t, deep, api.ErrArg)
	if !ladder.Same(alone(deep), alone(deep)) || ladder.Same(alone(deep), alone(series(a, deep))) {
		t.Error("Same of deep ones")
	}
}

// changes are changes of single fields of a rung with an element, each of which may or may not fit.
func changes(t *testing.T) map[string]func(*api.Rung, *api.Power) {
	e := expr(t, "z")
	return map[string]func(*api.Rung, *api.Power){
		"label": func(x *api.Rung, p *api.Power) { x.Label += "z" }, "bad label": func(x *api.Rung, p *api.Power) { x.Label = "box" }, "op": func(x *api.Rung, p *api.Power) { p.Op++ }, "less": func(x *api.Rung, p *api.Power) { p.Op-- },
		"name": func(x *api.Rung, p *api.Power) { p.Name += "z" }, "no name": func(x *api.Rung, p *api.Power) { p.Name = "" }, "mark": func(x *api.Rung, p *api.Power) { p.Mark++ }, "arg": func(x *api.Rung, p *api.Power) { p.Arg = append(slices.Clone(p.Arg), e) },
		"no arg": func(x *api.Rung, p *api.Power) { p.Arg = nil }, "other arg": func(x *api.Rung, p *api.Power) { p.Arg = of(e) }, "field": func(x *api.Rung, p *api.Power) { p.Fields = append(slices.Clone(p.Fields), "z") }, "no fields": func(x *api.Rung, p *api.Power) { p.Fields = nil },
		"args": func(x *api.Rung, p *api.Power) { p.Args = append(slices.Clone(p.Args), e) }, "no args": func(x *api.Rung, p *api.Power) { p.Args = nil }, "input": func(x *api.Rung, p *api.Power) {
			p.Args, p.Fields = append(slices.Clone(p.Args), e), append(slices.Clone(p.Fields), "z")
		},
		"out": func(x *api.Rung, p *api.Power) { p.Out += "z" }, "no out": func(x *api.Rung, p *api.Power) { p.Out = "" }, "part": func(x *api.Rung, p *api.Power) { p.Parts = append(slices.Clone(p.Parts), plain("z")) },
		"less parts": func(x *api.Rung, p *api.Power) { p.Parts = p.Parts[:max(0, len(p.Parts)-1)] }, "coil": func(x *api.Rung, p *api.Power) { x.Coils = append(slices.Clone(x.Coils), coil(api.MReset, "z")) }, "no coils": func(x *api.Rung, p *api.Power) { x.Coils = nil },
		"coil mark": func(x *api.Rung, p *api.Power) { x.Coils = slices.Clone(x.Coils); x.Coils[0].Mark++ }, "coil name": func(x *api.Rung, p *api.Power) { x.Coils = slices.Clone(x.Coils); x.Coils[0].Name += "z" },
	}
}

func someRungs(t *testing.T) []api.Rung {
	return rungs(t, "rung: true -> q; rung: a -> /q; rung x: /a -> +q, -q; rung: +a -> set q, jump y; rung: -a -> reset q, return; rung: [a] -> jump y; rung: [a + 1 < f(b)] -> return;"+
		" rung: a & b -> q; rung: a | b & c -> q; rung: (a & b) & c -> q; rung y: box f(in).q -> q; rung: box f(in, a := 1).r -> q, q; rung z: box f(in, a := 1, b := n[2]).q -> q;")
}

// clone returns a rung that shares no parts of its element with another one, up to the depth 2.
func clone(x api.Rung) api.Rung {
	x.Power.Parts = slices.Clone(x.Power.Parts)
	return x
}

// TestChanged changes fields of ladders, and expects that only those are well formed that can be read.
func TestChanged(t *testing.T) {
	whole := someRungs(t)
	expectForm(t, whole, api.OK)
	good := 0
	for i := range whole {
		for what, change := range changes(t) {
			for inside := range len(whole[i].Power.Parts) + 1 {
				l := slices.Clone(whole)
				l[i] = clone(l[i])
				p := &l[i].Power
				if inside > 0 {
					p = &p.Parts[inside-1]
				}
				change(&l[i], p)
				can := canBeWritten(l)
				if can {
					good++
				}
				if (ladder.Check(l) == api.OK) != can {
					t.Errorf("rung %d, %v, with another %s: Check %d", i, l[i], what, ladder.Check(l))
				}
				same := reflect.DeepEqual(l[i], whole[i])
				if ladder.Same(l, whole) != same || ladder.Same(whole, l) != same || !ladder.Same(l, l) {
					t.Errorf("Same of rung %d and %v, with another %s", i, l[i], what)
				}
			}
		}
	}
	if good < 100 {
		t.Errorf("only %d good ones", good)
	}
}

func TestSame(t *testing.T) {
	l := append(someRungs(t), api.Rung{}, api.Rung{Label: "?", Power: api.Power{Op: -7, Mark: math.MinInt}, Coils: of(coil(-3, "!"))})
	for i, a := range l {
		for j, b := range l {
			if ladder.Same(of(a), of(b)) != (i == j) {
				t.Errorf("Same(%v, %v)", a, b)
			}
		}
	}
	empty := api.Rung{Power: api.Power{Arg: []api.Expr{}, Fields: []string{}, Args: []api.Expr{}, Parts: []api.Power{}}, Coils: []api.Coil{}}
	if !ladder.Same(nil, nil) || !ladder.Same(nil, []api.Rung{}) || !ladder.Same(of(empty), of(api.Rung{})) || ladder.Same(nil, l) || ladder.Same(l, nil) || ladder.Same(l, l[1:]) || !ladder.Same(l, l) {
		t.Error("Same of nothing and of all")
	}
	// An empty list is as good as none.
	full := api.Rung{Power: api.Power{Op: api.PContact, Name: "a", Arg: []api.Expr{}, Fields: []string{}, Args: []api.Expr{}, Parts: []api.Power{}}, Coils: of(coil(api.MPlain, "q"))}
	expectForm(t, of(full), api.OK)
	expectPower(t, full.Power, api.OK)
}

// randomPower returns a well formed element, but perhaps a too large one.
func randomPower(r *rand.Rand, depth int) api.Power {
	n := r.Intn(9)
	if depth <= 1 {
		n = r.Intn(6)
	}
	name := func() string { return []string{"a", "b", "c", "twelve_bytes"}[r.Intn(4)] }
	e := func() api.Expr {
		x := api.Expr{Op: api.EName, S: name()}
		return []api.Expr{x, {Op: api.ENot, Args: of(x)}, {Op: api.EConst, Kind: api.KInt, N: r.Intn(9)}, {Op: api.EOr, Args: of(x, x)}}[r.Intn(4)]
	}
	var parts []api.Power
	for range 2 + r.Intn(3)*r.Intn(2) {
		if n > 5 {
			parts = append(parts, randomPower(r, depth-1))
		}
	}
	switch n {
	case 0:
		return api.Power{Op: api.PTrue}
	case 1:
		return api.Power{Op: api.PCompare, Arg: of(e())}
	case 2:
		return api.Power{Op: api.PBox, Name: name(), Fields: of(name(), name()), Args: of(e()), Out: name()}
	case 3, 4, 5:
		return contact(r.Intn(4), name())
	case 6, 7:
		return series(parts...)
	}
	return parallel(parts...)
}

// randomLadder returns a ladder that is perhaps not well formed.
func randomLadder(r *rand.Rand) []api.Rung {
	var l []api.Rung
	for range r.Intn(4) {
		x := api.Rung{Label: []string{"", "", "x", "y"}[r.Intn(4)], Power: randomPower(r, 1+r.Intn(6))}
		for range 1 + r.Intn(2)*r.Intn(3) {
			x.Coils = append(x.Coils, coil(r.Intn(6), "q"))
		}
		switch r.Intn(8) {
		case 0:
			x.Coils[r.Intn(len(x.Coils))] = coil(api.MReturn, "")
		case 1:
			x.Coils[len(x.Coils)-1] = coil(api.MJump, []string{"x", "y"}[r.Intn(2)])
		}
		l = append(l, x)
	}
	return l
}

// TestLaddersAgain is about P5.5: what is written is read again, and written in the same way, without superfluous parentheses.
func TestLaddersAgain(t *testing.T) {
	r := rand.New(rand.NewSource(5))
	good := 0
	for range 6000 {
		l := randomLadder(r)
		text, err := ladder.Text(l)
		if (err == api.OK) != canBeWritten(l) || (ladder.Check(l) == api.OK) != (err == api.OK) {
			t.Fatalf("Text(%v) = %q, %d", l, text, err)
		}
		if err != api.OK {
			continue
		}
		good++
		got, _, err := ladder.Read(text)
		again, _ := ladder.Text(got)
		if err != api.OK || !ladder.Same(got, l) || again != text || strings.Count(text, "\n") != len(l) {
			t.Fatalf("%q is read as %v, %d", text, got, err)
		}
	}
	if good < 1000 {
		t.Errorf("only %d good ladders", good)
	}
}

// TestParentheses takes pairs of parentheses around elements out of texts, after which the ladder must be another one.
func TestParentheses(t *testing.T) {
	r := rand.New(rand.NewSource(6))
	tried := 0
	for range 3000 {
		l := alone(randomPower(r, 1+r.Intn(6)))
		text, _ := ladder.Text(l)
		for at, c := range text {
			if c != '(' || at > 0 && strings.ContainsRune("abcs", rune(text[at-1])) {
				continue
			}
			open, end := 0, at
			for ; end < len(text); end++ {
				open += strings.Count("(", text[end:end+1]) - strings.Count(")", text[end:end+1])
				if open == 0 {
					break
				}
			}
			without := text[:at] + " " + text[at+1:end] + " " + text[end+1:]
			if other, _, err := ladder.Read(without); err == api.OK && ladder.Same(other, l) {
				t.Fatalf("%q and %q are the same", text, without)
			}
			tried++
		}
	}
	if tried < 500 {
		t.Errorf("only %d tried", tried)
	}
}
