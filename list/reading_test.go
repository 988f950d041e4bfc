package list_test

import (
	"math/rand"
	"reflect"
	"strings"
	"testing"

	"winch/api"
	"winch/internal/ebnf"
	"winch/list"
	"winch/syntax"
)

func of[T any](l ...T) []T { return l }

func name(s string) api.Expr { return api.Expr{Op: api.EName, S: s} }

// expr returns the expression of a source.
func expr(t *testing.T, source string) api.Expr {
	t.Helper()
	e, _, err := syntax.Expr(source)
	if err != api.OK {
		t.Fatalf("Expr(%q): %d", source, err)
	}
	return e
}

// simple are sources of one line each, as they are to be written, with that line.
func simple(t *testing.T) map[string]api.Line {
	e := of(expr(t, "not a or b[1]"))
	two := of(expr(t, "x + 1"), expr(t, "t#500"))
	m := map[string]api.Line{
		"ld not a or b[1];": {Op: api.LLoad, Arg: e}, "ldn not a or b[1];": {Op: api.LLoad, Neg: true, Arg: e},
		"st q;": {Op: api.LStore, Name: "q"}, "stn q;": {Op: api.LStore, Neg: true, Name: "q"},
		"set q;": {Op: api.LSet, Name: "q"}, "reset q;": {Op: api.LReset, Name: "q"}, "not;": {Op: api.LNot},
		"cal f;": {Op: api.LCall, Name: "f"}, "calc f;": {Op: api.LCall, Cond: 1, Name: "f"}, "calcn f;": {Op: api.LCall, Cond: 2, Name: "f"},
		"cal f(a := x + 1);":               {Op: api.LCall, Name: "f", Fields: of("a"), Arg: two[:1]},
		"calc f(a := x + 1, pt := t#500);": {Op: api.LCall, Cond: 1, Name: "f", Fields: of("a", "pt"), Arg: two},
		"calcn f(a := x + 1, a := t#500);": {Op: api.LCall, Cond: 2, Name: "f", Fields: of("a", "a"), Arg: two},
		"ret;":                             {Op: api.LRet}, "retc;": {Op: api.LRet, Cond: 1}, "retcn;": {Op: api.LRet, Cond: 2},
	}
	for word, op := range map[string]int{"and": api.EAnd, "or": api.EOr, "xor": api.EXor, "add": api.EAdd, "sub": api.ESub, "mul": api.EMul, "div": api.EDiv,
		"mod": api.EMod, "gt": api.EGt, "ge": api.EGe, "eq": api.EEq, "ne": api.ENe, "le": api.ELe, "lt": api.ELt} {
		m[word+" not a or b[1];"] = api.Line{Op: api.LOp, E: op, Arg: e}
		if op <= api.EAnd {
			m[word+"n not a or b[1];"] = api.Line{Op: api.LOp, E: op, Neg: true, Arg: e}
		}
	}
	return m
}

func TestLines(t *testing.T) {
	for source, want := range simple(t) {
		for _, label := range []string{"", "x"} {
			want.Label = label
			text := source + "\n"
			if label != "" {
				text = label + ": " + text
			}
			for _, s := range []string{text, strings.ReplaceAll(text, " ", " \t\n// c\n"), strings.NewReplacer(": ", ":", " := ", ":=", ", ", ",", " + ", "+").Replace(text)} {
				l, at, err := list.Read(s)
				if err != api.OK || at != 0 || !reflect.DeepEqual(l, of(want)) {
					t.Errorf("Read(%q) = %v, %d, %d; want %v", s, l, at, err, want)
				}
			}
			if got, err := list.Text(of(want)); got != text || err != api.OK {
				t.Errorf("Text(%v) = %q, %d; want %q", want, got, err, text)
			}
			if err := list.Check(of(want)); err != api.OK {
				t.Errorf("Check(%v) = %d", want, err)
			}
		}
	}
}

func TestJumps(t *testing.T) {
	for word, cond := range map[string]int{"jmp": 0, "jmpc": 1, "jmpcn": 2} {
		source := "x: not;\n" + word + " x;\n" + word + " y;\ny: " + word + " y;\n"
		want := []api.Line{{Label: "x", Op: api.LNot}, {Op: api.LJump, Cond: cond, Name: "x"}, {Op: api.LJump, Cond: cond, Name: "y"}, {Label: "y", Op: api.LJump, Cond: cond, Name: "y"}}
		l, at, err := list.Read(source)
		if err != api.OK || at != 0 || !reflect.DeepEqual(l, want) {
			t.Errorf("Read(%q) = %v, %d, %d", source, l, at, err)
		}
		if got, err := list.Text(want); got != source || err != api.OK {
			t.Errorf("Text = %q, %d; want %q", got, err, source)
		}
	}
}

func TestOpenParentheses(t *testing.T) {
	a, b := of(name("a")), of(name("b"))
	for _, x := range []struct {
		source, text string
		want         []api.Line
	}{
		{"ld a; and( ; ld b; or c; ); st q;", "ld a;\nand(;\nld b;\nor c;\n);\nst q;\n", []api.Line{{Op: api.LLoad, Arg: a}, {Op: api.LOp, E: api.EAnd, Open: true},
			{Op: api.LLoad, Arg: b}, {Op: api.LOp, E: api.EOr, Arg: of(name("c"))}, {Op: api.LClose}, {Op: api.LStore, Name: "q"}}},
		{"x:xorn // ?\n( // ?\n;ldn a;gt(;ld b;););", "x: xorn(;\nldn a;\ngt(;\nld b;\n);\n);\n", []api.Line{{Label: "x", Op: api.LOp, E: api.EXor, Neg: true, Open: true},
			{Op: api.LLoad, Neg: true, Arg: a}, {Op: api.LOp, E: api.EGt, Open: true}, {Op: api.LLoad, Arg: b}, {Op: api.LClose}, {Op: api.LClose}}},
		{"ld (a or b); andn a;", "ld a or b;\nandn a;\n", []api.Line{{Op: api.LLoad, Arg: of(expr(t, "a or b"))}, {Op: api.LOp, E: api.EAnd, Neg: true, Arg: a}}},
		{"and (a);", "and a;\n", []api.Line{{Op: api.LOp, E: api.EAnd, Arg: a}}},
		{"mul ((a) + 1) * (b);", "mul (a + 1) * b;\n", []api.Line{{Op: api.LOp, E: api.EMul, Arg: of(expr(t, "(a + 1) * b"))}}},
		{"cal f();", "cal f;\n", []api.Line{{Op: api.LCall, Name: "f"}}},
		{"", "", nil}, {" // nothing", "", nil},
	} {
		l, at, err := list.Read(x.source)
		if err != api.OK || at != 0 || !reflect.DeepEqual(l, x.want) {
			t.Errorf("Read(%q) = %v, %d, %d; want %v", x.source, l, at, err, x.want)
		}
		if got, err := list.Text(x.want); got != x.text || err != api.OK {
			t.Errorf("Text = %q, %d; want %q", got, err, x.text)
		}
	}
	for word, h := range map[string]api.Line{"and": {E: api.EAnd}, "andn": {E: api.EAnd, Neg: true}, "or": {E: api.EOr}, "orn": {E: api.EOr, Neg: true}, "xor": {E: api.EXor},
		"xorn": {E: api.EXor, Neg: true}, "add": {E: api.EAdd}, "sub": {E: api.ESub}, "mul": {E: api.EMul}, "div": {E: api.EDiv}, "mod": {E: api.EMod}, "gt": {E: api.EGt},
		"ge": {E: api.EGe}, "eq": {E: api.EEq}, "ne": {E: api.ENe}, "le": {E: api.ELe}, "lt": {E: api.ELt}} {
		source := word + "(;\nld a;\n);\n"
		want := []api.Line{{Op: api.LOp, E: h.E, Neg: h.Neg, Open: true}, {Op: api.LLoad, Arg: a}, {Op: api.LClose}}
		l, _, err := list.Read(source)
		text, err2 := list.Text(want)
		if err != api.OK || !reflect.DeepEqual(l, want) || err2 != api.OK || text != source {
			t.Errorf("Read(%q) = %v, %d; Text %q, %d", source, l, err, text, err2)
		}
	}
}

func TestReadErrors(t *testing.T) {
	for _, x := range []struct {
		source string
		at     int
		e      api.Errno
	}{
		{"ld", 2, api.ErrSyntax}, {"ld a", 4, api.ErrSyntax}, {"ld a // ;", 9, api.ErrSyntax}, {"ld ;", 3, api.ErrSyntax}, {"ld a b;", 5, api.ErrSyntax}, {"ld (a;", 5, api.ErrSyntax},
		{"ld (;", 4, api.ErrSyntax}, {"ld a);", 4, api.ErrSyntax}, {"ld a[1;", 6, api.ErrSyntax}, {"ld a, b;", 4, api.ErrSyntax}, {"ld a := b;", 5, api.ErrSyntax},
		{"and ( )", 6, api.ErrSyntax}, {"and (", 5, api.ErrSyntax}, {"and", 3, api.ErrSyntax}, {"and;", 3, api.ErrSyntax}, {"and ((;", 6, api.ErrSyntax}, {"add and;", 4, api.ErrSyntax},
		{"addn a;", 5, api.ErrSyntax}, {"st 1;", 3, api.ErrSyntax}, {"st a[1];", 4, api.ErrSyntax}, {"st a + 1;", 5, api.ErrSyntax}, {"set ld;", 4, api.ErrSyntax}, {"st (a);", 3, api.ErrSyntax},
		{"not a;", 4, api.ErrSyntax}, {") a;", 2, api.ErrSyntax}, {"(;", 0, api.ErrSyntax}, {"jmp;", 3, api.ErrSyntax}, {"jmp 1;", 4, api.ErrSyntax}, {"jmp x y;", 6, api.ErrSyntax},
		{"cal;", 3, api.ErrSyntax}, {"cal f(;", 6, api.ErrSyntax}, {"cal f(a;", 7, api.ErrSyntax}, {"cal f(a := 1,);", 13, api.ErrSyntax}, {"cal f(a := );", 11, api.ErrSyntax},
		{"cal f(1);", 6, api.ErrSyntax}, {"cal f(a := 1;", 12, api.ErrSyntax}, {"cal f(a := 1) b;", 14, api.ErrSyntax}, {"cal f(a := b c);", 13, api.ErrSyntax}, {"cal f(a = 1);", 8, api.ErrSyntax},
		{"cal f a;", 6, api.ErrSyntax}, {"ret x;", 4, api.ErrSyntax}, {"retc", 4, api.ErrSyntax}, {";", 0, api.ErrSyntax}, {"not;;", 4, api.ErrSyntax}, {"x", 1, api.ErrSyntax},
		{"x:", 2, api.ErrSyntax}, {"x:;", 2, api.ErrSyntax}, {"x ld a;", 2, api.ErrSyntax}, {"x: y: ld a;", 3, api.ErrSyntax}, {"x := 1;", 2, api.ErrSyntax}, {"ld: ld a;", 2, api.ErrSyntax},
		{"1: ld a;", 0, api.ErrSyntax}, {"ld a; end", 6, api.ErrSyntax}, {"if a;", 0, api.ErrSyntax}, {"ld %i1;", 3, api.ErrSyntax}, {"ld a;\n ld b\nst c;", 12, api.ErrSyntax},
		// Tokens come first, and then what is not well formed comes last.
		{"jmp ?", 4, api.ErrSyntax}, {") ?", 2, api.ErrSyntax}, {"ld ; 01", 5, api.ErrSyntax}, {"jmp x; )", 8, api.ErrSyntax}, {"ld " + strings.Repeat("-", 14) + "a; ;", 20, api.ErrSyntax},
		{strings.Repeat("?", api.MaxSource+1), 0, api.ErrFull}, {strings.Repeat("not;", 501) + "not", 2007, api.ErrSyntax},
	} {
		if l, at, e := list.Read(x.source); e != x.e || at != x.at || len(l) != 0 {
			t.Errorf("Read(%.40q) = %v, %d, %d; want %d, %d", x.source, l, at, e, x.at, x.e)
		}
	}
}

// grammar is that of the chapter, with pieces to try.
const grammar = ebnf.Lists + ebnf.Expressions + ` piece = line ";" `

var randomTokens = strings.Fields("x y f 1 t#5 true not and andn or xorn add mod lt + - * = < ( ) [ ] , ; ; : . := ld ldn st set reset jmp jmpc cal calcn ret retcn %i1 end | if")

// trial holds the reader against the grammar.
func trial(t *testing.T) ebnf.Trial {
	return ebnf.Trial{Grammar: ebnf.Parse(grammar), Start: "list", Part: "piece", Most: 3, Tokens: randomTokens, Read: ebnf.Positions(list.Read, t.Error), Complain: t.Error}
}

func TestFirstWrongToken(t *testing.T) {
	trial(t).Random(5000, rand.New(rand.NewSource(3)).Intn)
}

// TestFirstWrongTokenAnywhere puts each token behind each beginning of some sources, and one more behind that.
func TestFirstWrongTokenAnywhere(t *testing.T) {
	for _, source := range []string{
		"x : ld a + b [ 1 ] ; stn q ; set q ; not ; y : ret ;",
		"and ( ; ld ( a ) ; ) ; or ( a ) or b . q ; mul - 1 ;",
		"jmpcn x ; cal f ; calc f ( ) ; cal f ( a := 1 , b := g ( c , t#5 ) ) ; retc ;",
	} {
		trial(t).Behind(source)
	}
}

func TestAnySource(t *testing.T) {
	pieces := strings.Split("ld a|st q|;|;|:|x|and(|)|(|jmp x|cal f|not|,|:=| |\n|?|1|ret|a.b|t#|-|or b|\x00|\xff", "|")
	trial(t).Pieces(pieces, 20000, rand.New(rand.NewSource(4)).Intn)
}
