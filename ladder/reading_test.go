package ladder_test

import (
	"math/rand"
	"reflect"
	"strings"
	"testing"

	"winch/api"
	"winch/internal/ebnf"
	"winch/ladder"
	"winch/syntax"
)

func of[T any](l ...T) []T { return l }

func contact(mark int, name string) api.Power {
	return api.Power{Op: api.PContact, Mark: mark, Name: name}
}

func plain(name string) api.Power { return contact(api.MPlain, name) }

func series(parts ...api.Power) api.Power { return api.Power{Op: api.PSeries, Parts: parts} }

func parallel(parts ...api.Power) api.Power { return api.Power{Op: api.PParallel, Parts: parts} }

func coil(mark int, name string) api.Coil { return api.Coil{Mark: mark, Name: name} }

// expr returns the expression of a source.
func expr(t *testing.T, source string) api.Expr {
	t.Helper()
	e, _, err := syntax.Expr(source)
	if err != api.OK {
		t.Fatalf("Expr(%q): %d", source, err)
	}
	return e
}

// rungs returns the ladder of a source.
func rungs(t *testing.T, source string) []api.Rung {
	t.Helper()
	l, at, err := ladder.Read(source)
	if err != api.OK {
		t.Fatalf("Read(%q): %d, %d", source, at, err)
	}
	return l
}

// power returns the power of a rung that begins with a text.
func power(t *testing.T, source string) api.Power {
	t.Helper()
	return rungs(t, "rung: "+source+" -> q;")[0].Power
}

// expectLadder checks that a source is read as a ladder, with any blanks, and that this is written as a text.
func expectLadder(t *testing.T, source, text string, want []api.Rung) {
	t.Helper()
	for _, s := range []string{source, strings.ReplaceAll(source, " ", " \t\n// ; -> c\n"), text} {
		l, at, err := ladder.Read(s)
		if err != api.OK || at != 0 || !reflect.DeepEqual(l, want) {
			t.Errorf("Read(%q) = %v, %d, %d; want %v", s, l, at, err, want)
		}
	}
	if got, err := ladder.Text(want); got != text || err != api.OK {
		t.Errorf("Text(%v) = %q, %d; want %q", want, got, err, text)
	}
	if err := ladder.Check(want); err != api.OK {
		t.Errorf("Check(%v) = %d", want, err)
	}
}

func TestElements(t *testing.T) {
	a, b, c, d := plain("a"), plain("b"), plain("c"), plain("d")
	compare := func(s string) api.Power { return api.Power{Op: api.PCompare, Arg: of(expr(t, s))} }
	for source, want := range map[string]api.Power{
		"true": {Op: api.PTrue}, "a": a, "/a": contact(api.MNot, "a"), "+a": contact(api.MRise, "a"), "-a": contact(api.MFall, "a"),
		"[x + 1 < f(y, -2)]": compare("x + 1 < f(y, -2)"), "[a]": compare("a"), "[n[m[1]] = 1]": compare("n[m[1]] = 1"),
		"a & b": series(a, b), "a | b": parallel(a, b), "a & b & c": series(a, b, c), "a | b | c": parallel(a, b, c),
		"a & b | c & d": parallel(series(a, b), series(c, d)), "a | b & c | d": parallel(a, series(b, c), d), "a & (b | /c)": series(a, parallel(b, contact(api.MNot, "c"))),
		"(a | b) & (c | d)": series(parallel(a, b), parallel(c, d)), "(a & b) & c": series(series(a, b), c), "a & (b & c)": series(a, series(b, c)),
		"(a | b) | c": parallel(parallel(a, b), c), "a | (b | c) | d": parallel(a, parallel(b, c), d), "((a & b) & c) & d": series(series(series(a, b), c), d),
		"a & ((b | c) | d)":                                series(a, parallel(parallel(b, c), d)),
		"box f(in).q":                                      {Op: api.PBox, Name: "f", Fields: of("in"), Out: "q"},
		"box f(in, a := x + 1).q":                          {Op: api.PBox, Name: "f", Fields: of("in", "a"), Args: of(expr(t, "x + 1")), Out: "q"},
		"box f(in, in := g(x, y), pt := t#500).q":          {Op: api.PBox, Name: "f", Fields: of("in", "in", "pt"), Args: of(expr(t, "g(x, y)"), expr(t, "t#500")), Out: "q"},
		"+a & box f(in).q & [x] | (-b | true) & /c":        parallel(series(contact(api.MRise, "a"), api.Power{Op: api.PBox, Name: "f", Fields: of("in"), Out: "q"}, compare("x")), series(parallel(contact(api.MFall, "b"), api.Power{Op: api.PTrue}), contact(api.MNot, "c"))),
		"limit & twelve_bytes":                             series(plain("limit"), plain("twelve_bytes")),
		"[(a or b) and c] & [not (a = b)] | [t#5 < t1.et]": parallel(series(compare("(a or b) and c"), compare("not (a = b)")), compare("t#5 < t1.et")),
	} {
		ladder := of(api.Rung{Power: want, Coils: of(coil(api.MPlain, "q"))})
		text := "rung: " + source + " -> q;\n"
		expectLadder(t, text, text, ladder)
		ladder[0].Label = "x"
		expectLadder(t, "rung x:("+source+")->q;", "rung x: "+source+" -> q;\n", ladder)
	}
}

func TestCoils(t *testing.T) {
	for source, want := range map[string][]api.Coil{
		"q": of(coil(api.MPlain, "q")), "/q": of(coil(api.MNot, "q")), "+q": of(coil(api.MRise, "q")), "-q": of(coil(api.MFall, "q")), "set q": of(coil(api.MSet, "q")),
		"reset q": of(coil(api.MReset, "q")), "jump y": of(coil(api.MJump, "y")), "return": of(coil(api.MReturn, "")),
		"q, q, /r": of(coil(api.MPlain, "q"), coil(api.MPlain, "q"), coil(api.MNot, "r")), "set q, reset r, jump y": of(coil(api.MSet, "q"), coil(api.MReset, "r"), coil(api.MJump, "y")),
		"-q, +r, return": of(coil(api.MFall, "q"), coil(api.MRise, "r"), coil(api.MReturn, "")),
	} {
		text := "rung: a -> " + source + ";\nrung y: true -> q;\n"
		expectLadder(t, text, text, []api.Rung{{Power: plain("a"), Coils: want}, {Label: "y", Power: api.Power{Op: api.PTrue}, Coils: of(coil(api.MPlain, "q"))}})
	}
}

func TestLadders(t *testing.T) {
	a := plain("a")
	q := of(coil(api.MPlain, "q"))
	expectLadder(t, "", "", nil)
	expectLadder(t, " \n//rung", "", nil)
	expectLadder(t, "rung x: +a -> set q, jump y; rung y: true -> return;", "rung x: +a -> set q, jump y;\nrung y: true -> return;\n", []api.Rung{
		{Label: "x", Power: contact(api.MRise, "a"), Coils: of(coil(api.MSet, "q"), coil(api.MJump, "y"))}, {Label: "y", Power: api.Power{Op: api.PTrue}, Coils: of(coil(api.MReturn, ""))}})
	expectLadder(t, "rung:a->q;rung:((a))->q;rung z : ( a ) -> q ;", "rung: a -> q;\nrung: a -> q;\nrung z: a -> q;\n", []api.Rung{{Power: a, Coils: q}, {Power: a, Coils: q}, {Label: "z", Power: a, Coils: q}})
	expectLadder(t, "rung:-a->-q;rung:/a&/a->/q;", "rung: -a -> -q;\nrung: /a & /a -> /q;\n", []api.Rung{{Power: contact(api.MFall, "a"), Coils: of(coil(api.MFall, "q"))},
		{Power: series(contact(api.MNot, "a"), contact(api.MNot, "a")), Coils: of(coil(api.MNot, "q"))}})
	expectLadder(t, "rung: (a & a) | (a) -> q;", "rung: a & a | a -> q;\n", []api.Rung{{Power: parallel(series(a, a), a), Coils: q}})
	if l, _, _ := ladder.Read("rung: box t1(in, pt := t#500).q -> q;"); len(l) != 1 || l[0].Power.Op != api.PBox || l[0].Power.Out != "q" || len(l[0].Power.Args) != 1 {
		t.Errorf("the third example: %v", l)
	}
}

func TestReadErrors(t *testing.T) {
	for _, x := range []struct {
		source string
		at     int
		e      api.Errno
	}{
		{"rung", 4, api.ErrSyntax}, {"rung a", 6, api.ErrSyntax}, {"rung a b: a -> q;", 7, api.ErrSyntax}, {"rung :", 6, api.ErrSyntax}, {"rung: -> q;", 6, api.ErrSyntax}, {"rung: a", 7, api.ErrSyntax},
		{"rung: a ;", 8, api.ErrSyntax}, {"rung: a ->", 10, api.ErrSyntax}, {"rung: a -> ;", 11, api.ErrSyntax}, {"rung: a -> q", 12, api.ErrSyntax}, {"rung: a -> q r;", 13, api.ErrSyntax},
		{"rung: a -> q, ;", 14, api.ErrSyntax}, {"rung: a -> q & r;", 13, api.ErrSyntax}, {"rung: a b -> q;", 8, api.ErrSyntax}, {"rung: a & -> q;", 10, api.ErrSyntax}, {"rung: a & & b -> q;", 10, api.ErrSyntax},
		{"rung: a | -> q;", 10, api.ErrSyntax}, {"rung: | a -> q;", 6, api.ErrSyntax}, {"rung: a or b -> q;", 8, api.ErrSyntax}, {"rung: not a -> q;", 6, api.ErrSyntax}, {"rung: (a -> q;", 9, api.ErrSyntax},
		{"rung: a) -> q;", 7, api.ErrSyntax}, {"rung: () -> q;", 7, api.ErrSyntax}, {"rung: (a & b | c -> q;", 17, api.ErrSyntax}, {"rung: // a -> q;", 16, api.ErrSyntax}, {"rung: / / a -> q;", 8, api.ErrSyntax}, {"rung: /(a) -> q;", 7, api.ErrSyntax},
		{"rung: +true -> q;", 7, api.ErrSyntax}, {"rung: false -> q;", 6, api.ErrSyntax}, {"rung: 1 -> q;", 6, api.ErrSyntax}, {"rung: set a -> q;", 6, api.ErrSyntax}, {"rung: a[1] -> q;", 7, api.ErrSyntax}, {"rung: a.q -> q;", 7, api.ErrSyntax},
		{"rung: [] -> q;", 7, api.ErrSyntax}, {"rung: [a -> q;", 9, api.ErrSyntax}, {"rung: [a, b] -> q;", 8, api.ErrSyntax}, {"rung: [a & b] -> q;", 9, api.ErrSyntax}, {"rung: [a) -> q;", 8, api.ErrSyntax}, {"rung: [(a] -> q;", 9, api.ErrSyntax},
		{"rung: [a b] -> q;", 9, api.ErrSyntax}, {"rung: [a;", 8, api.ErrSyntax}, {"rung: [a := b] -> q;", 9, api.ErrSyntax}, {"rung: [a", 8, api.ErrSyntax}, {"rung: [", 7, api.ErrSyntax},
		{"rung: box -> q;", 10, api.ErrSyntax}, {"rung: box f -> q;", 12, api.ErrSyntax}, {"rung: box f() -> q;", 12, api.ErrSyntax}, {"rung: box f(in) -> q;", 16, api.ErrSyntax}, {"rung: box f(in). -> q;", 17, api.ErrSyntax},
		{"rung: box f(in := a).q -> q;", 15, api.ErrSyntax}, {"rung: box f(in, a).q -> q;", 17, api.ErrSyntax}, {"rung: box f(in, ).q -> q;", 16, api.ErrSyntax}, {"rung: box f(in, a := ).q -> q;", 21, api.ErrSyntax},
		{"rung: box f(in, a := 1,).q -> q;", 23, api.ErrSyntax}, {"rung: box f(in, a := 1 2).q -> q;", 23, api.ErrSyntax}, {"rung: box f(in, a := 1].q -> q;", 22, api.ErrSyntax}, {"rung: box f(in).1 -> q;", 16, api.ErrSyntax}, {"rung: box f(/in).q -> q;", 12, api.ErrSyntax},
		{"rung: box f(in).q.r -> q;", 17, api.ErrSyntax}, {"rung: f(in).q -> q;", 7, api.ErrSyntax}, {"rung: box box(in).q -> q;", 10, api.ErrSyntax},
		{"rung: a -> 1;", 11, api.ErrSyntax}, {"rung: a -> true;", 11, api.ErrSyntax}, {"rung: a -> set;", 14, api.ErrSyntax}, {"rung: a -> set /q;", 15, api.ErrSyntax}, {"rung: a -> / set q;", 13, api.ErrSyntax}, {"rung: a -> jump;", 15, api.ErrSyntax},
		{"rung: a -> jump 1;", 16, api.ErrSyntax}, {"rung: a -> return q;", 18, api.ErrSyntax}, {"rung: a -> (q);", 11, api.ErrSyntax}, {"rung: a -> q[1];", 12, api.ErrSyntax}, {"rung: a -> q := a;", 13, api.ErrSyntax},
		{"a -> q;", 0, api.ErrSyntax}, {"rung: a -> q; end", 14, api.ErrSyntax}, {"rung: a -> q;;", 13, api.ErrSyntax}, {";", 0, api.ErrSyntax}, {"rung 1: a -> q;", 5, api.ErrSyntax}, {"rung if: a -> q;", 5, api.ErrSyntax}, {"x: rung: a -> q;", 0, api.ErrSyntax},
		{"rung: a -> q;\n\nrung: b\n-> c d;", 28, api.ErrSyntax}, {"rung: a -> q; rung: [x -> y", 23, api.ErrSyntax},
		// Tokens come first, and what is not well formed comes last.
		{"rung: ; ?", 8, api.ErrSyntax}, {"rung: a -> jump x; %", 19, api.ErrSyntax}, {"rung: a -> jump x; rung: ;", 25, api.ErrSyntax}, {"rung: [" + strings.Repeat("-", 14) + "a] -> q; q", 30, api.ErrSyntax},
		{"rung: a -> jump x;", 0, api.ErrFull}, {strings.Repeat("?", api.MaxSource+1), 0, api.ErrFull}, {strings.Repeat("rung: a -> q;", 167) + "rung", 167*13 + 4, api.ErrSyntax},
	} {
		if l, at, e := ladder.Read(x.source); e != x.e || at != x.at || len(l) != 0 {
			t.Errorf("Read(%.40q) = %v, %d, %d; want %d, %d", x.source, l, at, e, x.at, x.e)
		}
	}
}

var randomTokens = strings.Fields("x y f 1 t#5 true not and or + - * / = < ( ) [ ] , ; ; : . := & | -> rung box set reset jump return %i1 end st false")

// trial holds the reader against the grammar.
func trial(t *testing.T) ebnf.Trial {
	return ebnf.Trial{Grammar: ebnf.Parse(ebnf.Ladders + ebnf.Expressions), Start: "ladder", Part: "rung", Most: 2, Tokens: randomTokens, Read: ebnf.Positions(ladder.Read, t.Error), Complain: t.Error}
}

func TestFirstWrongToken(t *testing.T) {
	trial(t).Random(5000, rand.New(rand.NewSource(3)).Intn)
}

// TestFirstWrongTokenAnywhere puts each token behind each beginning of some sources, and one more behind that.
func TestFirstWrongTokenAnywhere(t *testing.T) {
	for _, source := range []string{
		"rung x : / a & ( + b | - c ) & [ a + f ( 1 ) ] -> q , set q , jump y ; rung y : true -> return ;",
		"rung : box f ( in , a := n [ 1 ] , b := - 2 ) . q | ( ( a ) ) -> / q , + q , - q , reset q ;",
	} {
		trial(t).Behind(source)
	}
}

func TestAnySource(t *testing.T) {
	pieces := strings.Split("rung:~rung x:~a~->~q~;~;~:~&~|~(~)~/~+~-~[~]~[a]~box f(in).q~box~set q~jump x~return~true~,~:=~ ~\n~?~1~-> q;~not~\x00~\xff", "~")
	trial(t).Pieces(pieces, 20000, rand.New(rand.NewSource(4)).Intn)
}
