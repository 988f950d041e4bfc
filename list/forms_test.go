package list_test

import (
	"math"
	"math/rand"
	"reflect"
	"slices"
	"strings"
	"testing"

	"winch/api"
	"winch/list"
	"winch/print"
	"winch/syntax"
)

// write writes lines in its own way, whatever they are; what has no word has the word "?".
func write(l []api.Line) string {
	var all strings.Builder
	for _, x := range l {
		if x.Label != "" {
			all.WriteString(x.Label + ":")
		}
		all.WriteString(wordOf(x) + " ")
		switch {
		case x.Op == api.LCall:
			all.WriteString(x.Name + "(")
			for i, e := range x.Arg {
				text, _ := print.Expr(e)
				if i > 0 {
					all.WriteString(",")
				}
				all.WriteString(x.Fields[i] + ":=(" + text + ")")
			}
			all.WriteString(")")
		case x.Open:
			all.WriteString("(")
		case len(x.Arg) > 0:
			text, _ := print.Expr(x.Arg[0])
			all.WriteString(text)
		default:
			all.WriteString(x.Name)
		}
		all.WriteString(";")
	}
	return all.String()
}

func wordOf(x api.Line) string {
	words := map[int]string{api.LLoad: "ld", api.LStore: "st", api.LSet: "set", api.LReset: "reset", api.LNot: "not", api.LClose: ")", api.LJump: "jmp", api.LCall: "cal", api.LRet: "ret"}
	operators := map[int]string{api.EAnd: "and", api.EOr: "or", api.EXor: "xor", api.EAdd: "add", api.ESub: "sub", api.EMul: "mul", api.EDiv: "div",
		api.EMod: "mod", api.EGt: "gt", api.EGe: "ge", api.EEq: "eq", api.ENe: "ne", api.ELe: "le", api.ELt: "lt"}
	word := words[x.Op]
	if x.Op == api.LOp {
		word = operators[x.E]
	}
	if x.Neg {
		word += "n"
	}
	if x.Cond < 0 || x.Cond > 2 || word == "" {
		return "?"
	}
	return word + []string{"", "c", "cn"}[x.Cond]
}

// canBeWritten reports whether reading what write makes of a list gives it again.
func canBeWritten(l []api.Line) (can bool) {
	defer func() {
		if recover() != nil {
			can = false
		}
	}()
	got, _, err := list.Read(write(l))
	return err == api.OK && reflect.DeepEqual(got, l)
}

// lines returns the list of a source.
func lines(t *testing.T, source string) []api.Line {
	t.Helper()
	l, at, err := list.Read(source)
	if err != api.OK {
		t.Fatalf("Read(%q): %d, %d", source, at, err)
	}
	return l
}

// expectForm checks what is said of a list by all functions that want a well formed one.
func expectForm(t *testing.T, l []api.Line, want api.Errno) {
	t.Helper()
	text, e1 := list.Text(l)
	blocks, e2 := list.Blocks(l)
	reached, e3 := list.Reached(l)
	if e := list.Check(l); e != want || e1 != want || e2 != want || e3 != want {
		t.Errorf("%.300v: Check %d, Text %d, Blocks %d, Reached %d; want %d", l, e, e1, e2, e3, want)
	}
	if want != api.OK && (text != "" || len(blocks) != 0 || len(reached) != 0) {
		t.Errorf("%.300v: Text %q, Blocks %v, Reached %v", l, text, blocks, reached)
	}
}

// TestWellFormed has sources of the grammar that are well formed or not, for each reason.
func TestWellFormed(t *testing.T) {
	open, shut := strings.Repeat("and(; ld a; ", 14), strings.Repeat("); ", 14)
	for _, x := range []struct {
		source string
		e      api.Errno
	}{
		{"x: ld a; x: ld b;", api.ErrFull}, {"x: ld a; y: ld b; x: not;", api.ErrFull}, {"x: ld a; y: ld b;", api.OK},
		{"jmp x;", api.ErrFull}, {"jmp x; x: not;", api.OK}, {"x: jmp x;", api.OK}, {"jmp y; x: not;", api.ErrFull}, {"jmpc x; jmpcn y; y: not;", api.ErrFull}, {"jmpcn x; jmpc x; x: not;", api.OK},
		{"y: cal x;", api.OK}, {"ld x; st x;", api.OK},
		{"and(; ld a; );", api.OK}, {"and(; ld a;", api.ErrFull}, {"); and(; ld a;", api.ErrFull}, {");", api.ErrFull}, {"and(; ld a; ); );", api.ErrFull},
		{"and(; ld a; ); ); or(; ld a;", api.ErrFull}, {"and(; ld a; or(; ldn b; ); ); add(; ld c; );", api.OK}, {"and(; ld a; or(; ld b; );", api.ErrFull},
		{"and(; );", api.ErrFull}, {"and(; not; );", api.ErrFull}, {"and(; or(; ld a; ); );", api.ErrFull}, {"and(; cal f; ld a; );", api.ErrFull}, {"and(; or a; );", api.ErrFull},
		{"and(; ld a; or(; st b; ); );", api.ErrFull}, {"and(; ldn a; not; st b; cal f; set c; );", api.OK},
		{"x: and(; ld a; );", api.OK}, {"and(; x: ld a; );", api.ErrFull}, {"and(; ld a; x: or b; );", api.ErrFull}, {"and(; ld a; x: );", api.ErrFull}, {"and(; ld a; ); x: not;", api.OK},
		{"and(; ld a; or(; ld b; ); x: not; );", api.ErrFull}, {"and(; ld a; x: or(; ld b; ); );", api.ErrFull},
		{"x: and(; ld a; jmp x; );", api.ErrFull}, {"x: and(; ld a; jmpc x; );", api.ErrFull}, {"x: and(; ld a; ); jmpc x;", api.OK}, {"and(; ld a; ret; );", api.ErrFull}, {"and(; ld a; retcn; );", api.ErrFull},
		{"and(; ld a; calc f; );", api.OK}, {"and(; jmp x; x: ld a; );", api.ErrFull}, {"and(; ret; ld a; );", api.ErrFull},
		{open + shut, api.OK}, {open + "or(; ld b; );" + shut, api.ErrFull}, {open + shut + open + shut, api.OK}, {open + strings.Repeat("); and(; ld a;", 9) + shut, api.OK},
		{strings.Repeat("not;", 500), api.OK}, {strings.Repeat("not;", 501), api.ErrFull}, {strings.Repeat("ld a;", 250), api.OK}, {strings.Repeat("ld a;", 250) + "not;", api.ErrFull},
		{strings.Repeat("ld a + f(b);", 100), api.OK}, {strings.Repeat("ld a + f(b);", 100) + "ret;", api.ErrFull}, {"cal f(" + strings.Repeat("a := b, ", 498) + "a := b);", api.OK},
		{"cal f(" + strings.Repeat("a := b, ", 498) + "a := b); not;", api.ErrFull}, {"cal f(" + strings.Repeat("a := b, ", 499) + "a := b);", api.ErrFull},
		{"ld f(" + strings.Repeat("a, ", 497) + "a);", api.OK}, {"ld f(" + strings.Repeat("a, ", 498) + "a);", api.ErrFull}, {"ld f(" + strings.Repeat("a, ", 500) + "a);", api.ErrFull},
		{"ld " + strings.Repeat("-", 13) + "a;", api.OK}, {"ld " + strings.Repeat("-", 14) + "a;", api.ErrFull}, {"cal f(a := " + strings.Repeat("-", 13) + "a);", api.OK},
		{"cal f(a := " + strings.Repeat("-", 14) + "a, b := 1);", api.ErrFull}, {"ld " + strings.Repeat("(", 3900) + "a" + strings.Repeat(")", 3900) + ";", api.OK},
		{"ld " + strings.Repeat("not ", 1900) + "a;", api.ErrFull}, {strings.Repeat("cal f(a := 1, b := 2); ", 100), api.OK}, {strings.Repeat("cal f(a := 1, b := 2); ", 100) + strings.Repeat("or a; ", 101), api.ErrFull},
	} {
		l, at, e := list.Read(x.source)
		if e != x.e || at != 0 || e != api.OK && len(l) != 0 {
			t.Errorf("Read(%.50q): %d lines, %d, %d; want %d", x.source, len(l), at, e, x.e)
		}
		if e == api.OK {
			expectForm(t, l, api.OK)
		}
	}
}

// TestWrongStructure has lines that are right one by one.
func TestWrongStructure(t *testing.T) {
	a := of(name("a"))
	load, open, shut := api.Line{Op: api.LLoad, Arg: a}, api.Line{Op: api.LOp, E: api.EAnd, Open: true}, api.Line{Op: api.LClose}
	not, jump := api.Line{Op: api.LNot}, api.Line{Op: api.LJump, Name: "x"}
	labelled := func(s string, x api.Line) api.Line { x.Label = s; return x }
	deep := slices.Concat(slices.Repeat(of(open, load), 14), slices.Repeat(of(shut), 14))
	deeper := slices.Concat(slices.Repeat(of(open, load), 15), slices.Repeat(of(shut), 15))
	for _, l := range [][]api.Line{nil, {}, {open, load, shut}, {labelled("x", jump)}, {labelled("x", open), load, shut, jump}, {labelled("x", not), labelled("y", not)}, deep, slices.Repeat(of(not), 500)} {
		expectForm(t, l, api.OK)
	}
	for _, l := range [][]api.Line{{shut}, {open}, {open, load}, {shut, open, load}, {load, open, load, shut, shut}, {open, shut}, {open, not, shut}, {open, open, load, shut, shut},
		{open, labelled("x", load), shut}, {open, load, labelled("x", shut)}, {labelled("x", open), load, jump, shut}, {open, load, {Op: api.LRet}, shut}, {open, load, {Op: api.LRet, Cond: 1}, shut},
		{jump}, {jump, labelled("y", not)}, {labelled("x", not), labelled("x", not)}, {labelled("x", not), not, labelled("x", load)}, deeper,
		slices.Repeat(of(not), 501), slices.Repeat(of(load), 251), slices.Repeat(of(not), 100000), slices.Repeat(of(load), 100000)} {
		expectForm(t, l, api.ErrArg)
	}
}

func TestWrongLines(t *testing.T) {
	a := of(name("a"))
	itself := api.Expr{Op: api.EAdd, Args: make([]api.Expr, 2)}
	itself.Args[0], itself.Args[1] = itself, itself
	deep := name("a")
	for range 14 {
		deep = api.Expr{Op: api.ENot, Args: of(deep)}
	}
	for _, x := range []api.Line{
		{}, {Op: -1}, {Op: 11}, {Op: math.MaxInt}, {Op: math.MinInt, Name: "a"},
		{Op: api.LLoad}, {Op: api.LLoad, Arg: of(a[0], a[0])}, {Op: api.LLoad, Name: "a"}, {Op: api.LLoad, Arg: a, Name: "a"}, {Op: api.LLoad, Arg: of(api.Expr{})}, {Op: api.LLoad, Arg: of(name("ld"))},
		{Op: api.LLoad, Arg: of(itself)}, {Op: api.LLoad, Arg: of(deep)}, {Op: api.LLoad, Arg: of(api.Expr{Op: api.EConst, Kind: api.KInt, N: -1})},
		{Op: api.LLoad, Arg: of(api.Expr{Op: api.ECall, S: "f", Args: slices.Repeat(a, 499)})}, {Op: api.LLoad, Arg: a, Fields: of("a")},
		{Op: api.LStore}, {Op: api.LStore, Name: "st"}, {Op: api.LStore, Name: "A"}, {Op: api.LStore, Name: "thirteen_byte"}, {Op: api.LStore, Name: "a", Arg: a}, {Op: api.LSet, Name: "a", Neg: true},
		{Op: api.LReset, Name: "a", Neg: true}, {Op: api.LSet}, {Op: api.LReset}, {Op: api.LReset, Arg: a}, {Op: api.LNot, Neg: true}, {Op: api.LNot, Name: "a"}, {Op: api.LNot, Arg: a},
		{Op: api.LOp, Arg: a}, {Op: api.LOp, E: api.EAnd}, {Op: api.LOp, E: api.EAnd, Arg: of(a[0], a[0])}, {Op: api.LOp, E: api.ENot, Arg: a}, {Op: api.LOp, E: api.ENeg, Arg: a},
		{Op: api.LOp, E: api.EConst, Arg: a}, {Op: api.LOp, E: 22, Arg: a}, {Op: api.LOp, E: api.EAdd, Neg: true, Arg: a}, {Op: api.LOp, E: api.EEq, Neg: true, Arg: a}, {Op: api.LOp, E: api.EAnd, Cond: 1, Arg: a},
		{Op: api.LOp, E: api.EAnd, Arg: a, Name: "a"}, {Op: api.LOp, E: api.EAnd, Arg: of(itself)}, {Op: api.LOp, E: -1, Arg: a},
		{Op: api.LJump}, {Op: api.LJump, Cond: 3, Name: "x"}, {Op: api.LJump, Cond: -1, Name: "x"}, {Op: api.LJump, Neg: true, Name: "x"}, {Op: api.LJump, Name: "x", Arg: a},
		{Op: api.LCall}, {Op: api.LCall, Name: "if"}, {Op: api.LCall, Name: "f", Cond: 3}, {Op: api.LCall, Name: "f", Neg: true}, {Op: api.LCall, Name: "f", Arg: a}, {Op: api.LCall, Name: "f", Fields: of("a")},
		{Op: api.LCall, Name: "f", Fields: of("or"), Arg: a}, {Op: api.LCall, Name: "f", Fields: of("a", ""), Arg: of(a[0], a[0])}, {Op: api.LCall, Name: "f", Fields: of("a"), Arg: of(api.Expr{})},
		{Op: api.LCall, Name: "f", Fields: slices.Repeat(of("a"), 500), Arg: slices.Repeat(a, 500)}, {Op: api.LRet, Cond: 3}, {Op: api.LRet, Neg: true}, {Op: api.LRet, Name: "a"}, {Op: api.LRet, Arg: a},
		{Op: api.LRet, Fields: of("a")}, {Op: api.LNot, Fields: of("a")},
	} {
		target := api.Line{Label: "x", Op: api.LNot}
		for _, l := range [][]api.Line{{x, target}, {target, x}, {target, {Op: api.LNot}, x}} {
			expectForm(t, l, api.ErrArg)
		}
	}
}

// changes are changes of single fields of a line, each of which may or may not fit.
func changes() map[string]func(*api.Line) {
	return map[string]func(*api.Line){
		"label": func(x *api.Line) { x.Label += "y" }, "bad label": func(x *api.Line) { x.Label = "1" }, "word": func(x *api.Line) { x.Label = "ld" }, "op": func(x *api.Line) { x.Op++ },
		"e": func(x *api.Line) { x.E++ }, "neg": func(x *api.Line) { x.Neg = !x.Neg }, "cond": func(x *api.Line) { x.Cond++ }, "open": func(x *api.Line) { x.Open = !x.Open },
		"arg": func(x *api.Line) { x.Arg = append(slices.Clone(x.Arg), name("z")) }, "other": func(x *api.Line) { x.Arg = of(name("z")) }, "none": func(x *api.Line) { x.Arg = nil },
		"name": func(x *api.Line) { x.Name += "z" }, "no name": func(x *api.Line) { x.Name = "" }, "field": func(x *api.Line) { x.Fields = append(slices.Clone(x.Fields), "z") },
		"no fields": func(x *api.Line) { x.Fields = nil },
	}
}

func someLines(t *testing.T) []api.Line {
	l := lines(t, "not; ld a; ldn a; st a; stn a; set a; reset a; and a; andn b + 1; add a; jmp x; jmpc x; cal f; calc f(a := 1); calcn f(a := 1, b := 2); ret; retcn; x: not; or(; ld a; ); xorn(; ld b; );")
	return append(l, api.Line{}, api.Line{Op: -3, E: math.MinInt, Cond: 7, Name: "?"})
}

func TestSame(t *testing.T) {
	l := someLines(t)
	for _, a := range l {
		for _, b := range l {
			if list.Same(of(a), of(b)) != reflect.DeepEqual(a, b) {
				t.Errorf("Same(%v, %v)", a, b)
			}
		}
		for what, change := range changes() {
			b := a
			change(&b)
			same := reflect.DeepEqual(a, b)
			if list.Same(of(a), of(b)) != same || list.Same(of(b), of(a)) != same || !list.Same(of(b), of(b)) || list.Same(of(l[0], a), of(l[0], b)) != same {
				t.Errorf("Same(%v) with another %s", a, what)
			}
		}
	}
	empty := api.Line{Arg: []api.Expr{}, Fields: []string{}}
	if !list.Same(nil, nil) || !list.Same(nil, []api.Line{}) || !list.Same(of(empty), of(api.Line{})) || list.Same(nil, l) || list.Same(l, nil) || list.Same(l, l[1:]) || !list.Same(l, l) {
		t.Error("Same of nothing and of all")
	}
	x, y := of(api.Line{Op: api.LLoad, Arg: of(expr(t, "a + f(b)"))}), of(api.Line{Op: api.LLoad, Arg: of(expr(t, "a + f(c)"))})
	if list.Same(x, y) || !list.Same(x, of(api.Line{Op: api.LLoad, Arg: of(expr(t, "a+(f((b)))"))})) {
		t.Error("Same of expressions")
	}
}

// TestChangedLines changes fields of lists, and expects that only those are well formed that can be read.
func TestChangedLines(t *testing.T) {
	whole := someLines(t)
	whole = whole[:len(whole)-2]
	expectForm(t, whole, api.OK)
	good := 0
	for i := range whole {
		for what, change := range changes() {
			l := slices.Clone(whole)
			change(&l[i])
			can := canBeWritten(l)
			if can {
				good++
			}
			if (list.Check(l) == api.OK) != can {
				t.Errorf("line %d, %v, with another %s: Check %d", i, l[i], what, list.Check(l))
			}
		}
	}
	if good < 20 {
		t.Errorf("only %d good ones", good)
	}
}

// someParts returns lines for random lists.
func someParts(t *testing.T) []api.Line {
	var all []api.Line
	for _, s := range []string{"not;", "ld a;", "ldn b + 1;", "st a;", "and a;", "or b;", "ret;", "retc;", "retcn;", "cal f;", "calc f(a := 1, b := not a);", "x: not;", "y: ld a;", "z: retc;"} {
		all = append(all, lines(t, s)...)
	}
	return all
}

// randomList returns a list that is perhaps not well formed.
func randomList(r *rand.Rand, parts []api.Line) []api.Line {
	var l []api.Line
	for range r.Intn(12) {
		x := parts[r.Intn(len(parts))]
		switch r.Intn(8) {
		case 0:
			x = api.Line{Op: api.LJump, Cond: r.Intn(3), Name: []string{"x", "y", "z"}[r.Intn(3)]}
		case 1:
			l = append(l, api.Line{Op: api.LOp, E: api.EAnd, Open: true}, parts[1])
			x = api.Line{Op: api.LClose}
		case 2:
			if x.Label != "" && r.Intn(2) == 0 {
				x.Label = ""
			}
		}
		l = append(l, x)
	}
	return l
}

// TestListsAgain is about P4.4: what is written is read again, and written in the same way.
func TestListsAgain(t *testing.T) {
	r := rand.New(rand.NewSource(5))
	parts := someParts(t)
	good := 0
	for range 6000 {
		l := randomList(r, parts)
		text, err := list.Text(l)
		if (err == api.OK) != canBeWritten(l) || (list.Check(l) == api.OK) != (err == api.OK) {
			t.Fatalf("Text(%v) = %q, %d", l, text, err)
		}
		if err != api.OK {
			continue
		}
		good++
		got, _, err := list.Read(text)
		again, _ := list.Text(got)
		if err != api.OK || !list.Same(got, l) || again != text {
			t.Fatalf("%q is read as %v, %d", text, got, err)
		}
	}
	if good < 500 {
		t.Errorf("only %d good lists", good)
	}
}

// TestNewMemory is about the rule of effects: results share no memory, and arguments are not changed.
func TestNewMemory(t *testing.T) {
	source := "x: ld a + b; cal f(a := 1, b := c); jmpc x; and(; ld a; );"
	l, m := lines(t, source), lines(t, source)
	before, _ := list.Text(l)
	list.Check(l)
	blocks, _ := list.Blocks(l)
	for i := range blocks {
		blocks[i] = append(blocks[i], -1)
	}
	again, _ := list.Blocks(l)
	if !list.Same(l, m) || !reflect.DeepEqual(again, [][]int{{0, 1, 2}, {3, 4, 5}}) {
		t.Errorf("%v was changed, or its blocks: %v", l, again)
	}
	for i := range l {
		clear(l[i].Arg)
		clear(l[i].Fields)
	}
	clear(l)
	if text, _ := list.Text(m); text != before {
		t.Errorf("Text = %q; want %q", text, before)
	}
	if n := lines(t, source); !list.Same(n, m) {
		t.Errorf("read again: %v", n)
	}
	if !syntax.SameExpr(m[0].Arg[0], expr(t, "a + b")) {
		t.Errorf("%v was changed", m)
	}
}
