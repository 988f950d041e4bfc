package diagram_test

import (
	"math/rand"
	"reflect"
	"strings"
	"testing"

	"winch/api"
	"winch/diagram"
	"winch/internal/ebnf"
	"winch/syntax"
)

func of[T any](l ...T) []T { return l }

// expr returns the expression of a source.
func expr(t *testing.T, source string) api.Expr {
	t.Helper()
	e, _, err := syntax.Expr(source)
	if err != api.OK {
		t.Fatalf("Expr(%q): %d", source, err)
	}
	return e
}

// nodes returns the diagram of a source.
func nodes(t *testing.T, source string) []api.Node {
	t.Helper()
	l, at, err := diagram.Read(source)
	if err != api.OK {
		t.Fatalf("Read(%q): %d, %d", source, at, err)
	}
	return l
}

func from(number int) api.Pin { return api.Pin{From: number} }

func not(p api.Pin) api.Pin {
	p.Neg = true
	return p
}

func named(name string, p api.Pin) api.Pin {
	p.Name = name
	return p
}

func variable(name string) api.Pin {
	return api.Pin{Arg: of(api.Expr{Op: api.EName, S: name})}
}

// value returns a pin with the expression of a source.
func value(t *testing.T, source string) api.Pin {
	t.Helper()
	return api.Pin{Arg: of(expr(t, source))}
}

func operator(number, e int, pins ...api.Pin) api.Node {
	return api.Node{Number: number, Op: api.DOp, E: e, Pins: pins}
}

func block(number int, name, out string, pins ...api.Pin) api.Node {
	return api.Node{Number: number, Op: api.DBlock, Name: name, Out: out, Pins: pins}
}

func out(name string, p api.Pin) api.Node {
	return api.Node{Op: api.DOut, Name: name, Pins: of(p)}
}

// expectDiagram checks that a source is read as a diagram, with any blanks, and that this is written as a text.
func expectDiagram(t *testing.T, source, text string, want []api.Node) {
	t.Helper()
	for _, s := range []string{source, strings.ReplaceAll(source, " ", " \t\n// ; 7: x\n"), text} {
		l, at, err := diagram.Read(s)
		if err != api.OK || at != 0 || !reflect.DeepEqual(l, want) {
			t.Errorf("Read(%q) = %v, %d, %d; want %v", s, l, at, err, want)
		}
	}
	if got, err := diagram.Text(want); got != text || err != api.OK {
		t.Errorf("Text(%v) = %q, %d; want %q", want, got, err, text)
	}
	if err := diagram.Check(want); err != api.OK {
		t.Errorf("Check(%v) = %d", want, err)
	}
}

func TestOperators(t *testing.T) {
	for word, e := range map[string]int{"and": api.EAnd, "or": api.EOr, "xor": api.EXor, "add": api.EAdd, "sub": api.ESub, "mul": api.EMul, "div": api.EDiv, "mod": api.EMod,
		"gt": api.EGt, "ge": api.EGe, "eq": api.EEq, "ne": api.ENe, "le": api.ELe, "lt": api.ELt} {
		text := "5: " + word + "(a, /b + 1);\n999: " + word + "(:5, /:5);\n"
		expectDiagram(t, text, text, of(operator(5, e, variable("a"), not(value(t, "b + 1"))), operator(999, e, from(5), not(from(5)))))
	}
	text := "1: not(a or b);\n2: not(/a);\n3: not(:1);\n4: not(/:2);\n"
	expectDiagram(t, text, text, of(operator(1, api.ENot, value(t, "a or b")), operator(2, api.ENot, not(variable("a"))), operator(3, api.ENot, from(1)), operator(4, api.ENot, not(from(2)))))
}

func TestDiagrams(t *testing.T) {
	a, b := variable("a"), variable("b")
	for _, x := range []struct {
		source, text string
		want         []api.Node
	}{
		{"", "", nil},
		{" \n//1:", "", nil},
		{"1: and(a, /b); 2: or(:1, c); q := :2;", "1: and(a, /b);\n2: or(:1, c);\nq := :2;\n", of(operator(1, api.EAnd, a, not(b)), operator(2, api.EOr, from(1), variable("c")), out("q", from(2)))},
		{"q := :1; 1: not(a);", "q := :1;\n1: not(a);\n", of(out("q", from(1)), operator(1, api.ENot, a))},
		{"2:not(a);1:and(a,/:2);3:t1(in:=:1,pt:=t#500).q;q:=/:3;", "2: not(a);\n1: and(a, /:2);\n3: t1(in := :1, pt := t#500).q;\nq := /:3;\n",
			of(operator(2, api.ENot, a), operator(1, api.EAnd, a, not(from(2))), block(3, "t1", "q", named("in", from(1)), named("pt", value(t, "t#500"))), out("q", not(from(3))))},
		{"1: f().q; 2: f(x := /a).q;", "1: f().q;\n2: f(x := /a).q;\n", of(block(1, "f", "q"), block(2, "f", "q", named("x", not(a))))},
		{"q := a; q := /a; q := (a or b) and not c; r := /((n[1] + f(2, g())));", "q := a;\nq := /a;\nq := (a or b) and not c;\nr := /n[1] + f(2, g());\n",
			of(out("q", a), out("q", not(a)), out("q", value(t, "(a or b) and not c")), out("r", not(value(t, "n[1] + f(2, g())"))))},
		{"1: div(a / b, -c); 2: not(t1.q);", "1: div(a / b, -c);\n2: not(t1.q);\n", of(operator(1, api.EDiv, value(t, "a / b"), value(t, "-c")), operator(2, api.ENot, value(t, "t1.q")))},
		// The number 0 is none.
		{"0: not(a); 0: f().q;", "0: not(a);\n0: f().q;\n", of(operator(0, api.ENot, a), block(0, "f", "q"))},
	} {
		expectDiagram(t, x.source, x.text, x.want)
	}
}

func TestReadErrors(t *testing.T) {
	for _, x := range []struct {
		source string
		at     int
		e      api.Errno
	}{
		{"1", 1, api.ErrSyntax}, {"1:", 2, api.ErrSyntax}, {"1 not(a);", 2, api.ErrSyntax}, {"1: ;", 3, api.ErrSyntax}, {"1: not", 6, api.ErrSyntax}, {"1: not a;", 7, api.ErrSyntax}, {"1: not();", 7, api.ErrSyntax}, {"1: not(a;", 8, api.ErrSyntax},
		{"1: not(a)", 9, api.ErrSyntax}, {"1: not(a, b);", 8, api.ErrSyntax}, {"1: not(a) b;", 10, api.ErrSyntax}, {"1: not(a).q;", 9, api.ErrSyntax}, {"1: not(in := a);", 10, api.ErrSyntax}, {"1: not(a b);", 9, api.ErrSyntax}, {"1: not(a]);", 8, api.ErrSyntax},
		{"1: not(/);", 8, api.ErrSyntax}, {"1: not(/ /a);", 9, api.ErrSyntax}, {"1: not(:);", 8, api.ErrSyntax}, {"1: not(:a);", 8, api.ErrSyntax}, {"1: not(:1 + 2);", 10, api.ErrSyntax}, {"1: not(a + :1);", 11, api.ErrSyntax}, {"1: not(a / :1);", 11, api.ErrSyntax},
		{"1: not((:1));", 8, api.ErrSyntax}, {"1: not(:/1);", 8, api.ErrSyntax}, {"1: not(: t#1);", 9, api.ErrSyntax}, {"1: not(- :1);", 9, api.ErrSyntax}, {"1: not(f(:1));", 9, api.ErrSyntax},
		{"1: and(a);", 8, api.ErrSyntax}, {"1: and(a,);", 9, api.ErrSyntax}, {"1: and(a, b, c);", 11, api.ErrSyntax}, {"1: and(a b);", 9, api.ErrSyntax}, {"1: and(, a);", 7, api.ErrSyntax}, {"1: and(a, b", 11, api.ErrSyntax}, {"1: andn(a, b);", 3, api.ErrSyntax},
		{"1: if(a, b);", 3, api.ErrSyntax}, {"1: 2(a);", 3, api.ErrSyntax}, {"1: f;", 4, api.ErrSyntax}, {"1: f(", 5, api.ErrSyntax}, {"1: f()", 6, api.ErrSyntax}, {"1: f();", 6, api.ErrSyntax}, {"1: f().;", 7, api.ErrSyntax}, {"1: f().1;", 7, api.ErrSyntax}, {"1: f().q.r;", 8, api.ErrSyntax},
		{"1: f().q", 8, api.ErrSyntax}, {"1: f(a).q;", 6, api.ErrSyntax}, {"1: f(a := ).q;", 10, api.ErrSyntax}, {"1: f(a := 1,).q;", 12, api.ErrSyntax}, {"1: f(a := 1 2).q;", 12, api.ErrSyntax}, {"1: f(:1).q;", 5, api.ErrSyntax}, {"1: f(/a := 1).q;", 5, api.ErrSyntax},
		{"1: f(a := :1 b := 2).q;", 13, api.ErrSyntax}, {"1: f(a := 1, b).q;", 14, api.ErrSyntax}, {"1: f(a = 1).q;", 7, api.ErrSyntax}, {"1: f(a : 1).q;", 7, api.ErrSyntax}, {"1: q := a;", 5, api.ErrSyntax}, {"1: f[1](a := 1).q;", 4, api.ErrSyntax},
		{"q", 1, api.ErrSyntax}, {"q := ", 5, api.ErrSyntax}, {"q := ;", 5, api.ErrSyntax}, {"q := a", 6, api.ErrSyntax}, {"q := a b;", 7, api.ErrSyntax}, {"q := :;", 6, api.ErrSyntax}, {"q := a, b;", 6, api.ErrSyntax}, {"q := a);", 6, api.ErrSyntax}, {"q[1] := a;", 1, api.ErrSyntax},
		{"q = a;", 2, api.ErrSyntax}, {"q: not(a);", 1, api.ErrSyntax}, {"q := :1 and a;", 8, api.ErrSyntax}, {"q := not(a;", 10, api.ErrSyntax}, {"q := / :1;;", 10, api.ErrSyntax}, {"not(a);", 0, api.ErrSyntax}, {";", 0, api.ErrSyntax}, {"t#1: not(a);", 0, api.ErrSyntax}, {":1 := a;", 0, api.ErrSyntax},
		{"q := a; end", 8, api.ErrSyntax}, {"-1: not(a);", 0, api.ErrSyntax}, {"1: not(a);\n q := :1\nr := a;", 20, api.ErrSyntax}, {"2147483648: not(a);", 0, api.ErrSyntax}, {"01: not(a);", 0, api.ErrSyntax},
		// Tokens come first, and what is not well formed comes last.
		{"1: ; ?", 5, api.ErrSyntax}, {"q := :1; %", 9, api.ErrSyntax}, {"q := :1; ;", 9, api.ErrSyntax}, {"q := " + strings.Repeat("-", 14) + "a; q", 23, api.ErrSyntax}, {"q := :1;", 0, api.ErrFull}, {strings.Repeat("?", api.MaxSource+1), 0, api.ErrFull},
		{strings.Repeat("q := a;", 167) + "q", 167*7 + 1, api.ErrSyntax}, {"1: not(:2); 2: not(:1);", 0, api.ErrFull},
	} {
		if l, at, e := diagram.Read(x.source); e != x.e || at != x.at || len(l) != 0 {
			t.Errorf("Read(%.40q) = %v, %d, %d; want %d, %d", x.source, l, at, e, x.at, x.e)
		}
	}
}

// grammar is that of the chapter, with pieces to try.
const grammar = ebnf.Diagrams + ebnf.Expressions + ` piece = node ";" `

var randomTokens = strings.Fields("x y f 0 1 2 t#5 true not and or xor add div mod lt + - * / = < ( ) [ ] , ; ; : : . := & | -> andn %i1 end if")

// trial holds the reader against the grammar.
func trial(t *testing.T) ebnf.Trial {
	return ebnf.Trial{Grammar: ebnf.Parse(grammar), Start: "diagram", Part: "piece", Most: 3, Tokens: randomTokens, Read: ebnf.Positions(diagram.Read, t.Error), Complain: t.Error}
}

func TestFirstWrongToken(t *testing.T) {
	trial(t).Random(5000, rand.New(rand.NewSource(3)).Intn)
}

// TestFirstWrongTokenAnywhere puts each token behind each beginning of some sources, and one more behind that.
func TestFirstWrongTokenAnywhere(t *testing.T) {
	for _, source := range []string{
		"1 : and ( a , / : 2 ) ; 2 : not ( / n [ 1 ] + f ( b , - 2 ) ) ; q := / : 1 ;",
		"3 : t1 ( in := : 4 , pt := / ( a ) ) . q ; 4 : f ( ) . q ; r := not a ;",
	} {
		trial(t).Behind(source)
	}
}

func TestAnySource(t *testing.T) {
	pieces := strings.Split("1:~2:~not(~and(~f(~in:=~q:=~a~:1~:2~/~,~)~).q~;~;~:~ ~\n~?~1~0~a/b~//~not~\x00~\xff~1: not(a);~q := :1;", "~")
	trial(t).Pieces(pieces, 20000, rand.New(rand.NewSource(4)).Intn)
}
