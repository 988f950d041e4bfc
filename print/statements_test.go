package print_test

import (
	"math/rand"
	"regexp"
	"strings"
	"testing"

	"winch/api"
	"winch/print"
	"winch/syntax"
)

// texts are texts of statements as they are to be written.
var texts = []string{
	"",
	"x := e;\n",
	"x := (1 + 2) * 3;\n",
	"x[i + 1] := e;\n",
	"f();\n",
	"f(a := e);\n",
	"t1(in := a or b, pt := t#500, q := -1);\n",
	"exit;\n",
	"return;\n",
	"exit;\nreturn;\nx := 1;\n",
	"if a then\nend_if;\n",
	"if a or b then\n  x := 1;\n  y := 2;\nend_if;\n",
	"if a then\nelse\nend_if;\n",
	"if a then\n  x := 1;\nelse\n  x := 2;\n  exit;\nend_if;\n",
	"if a then\n  x := 1;\nelsif b then\n  x := 2;\nelsif c then\nelsif d = 1 then\n  exit;\nend_if;\n",
	"if a then\nelsif b then\n  x := 1;\nelse\n  x := 2;\nend_if;\n",
	"case n of\nend_case;\n",
	"case n + 1 of\n  1:\nend_case;\n",
	"case n of\nelse\nend_case;\n",
	"case n of\n  1, 2:\n    x := 1;\n    y := 2;\n  -3:\n  0, -2147483647, 2147483647:\n    exit;\nend_case;\n",
	"case n of\n  1:\n    x := 1;\nelse\n  x := 2;\n  exit;\nend_case;\n",
	"for i := 1 to 3 do\nend_for;\n",
	"for i := a + 1 to b or c by 2 do\n  x := 1;\nend_for;\n",
	"for i := 1 to 3 by -1 do\n  x := i;\n  exit;\nend_for;\n",
	"for i := 1 to 3 by -2147483647 do\nend_for;\nfor i := 1 to 3 by 2147483647 do\nend_for;\n",
	"while a do\nend_while;\n",
	"while a and b do\n  x := 1;\n  exit;\nend_while;\n",
	"repeat\nuntil a\nend_repeat;\n",
	"repeat\n  x := 1;\n  exit;\nuntil a = 1\nend_repeat;\n",
	"if a then\n  case n of\n    1:\n      while a do\n        repeat\n          for i := 1 to 2 do\n            if b then\n              exit;\n            elsif c then\n" +
		"              return;\n            else\n              f(a := 1);\n            end_if;\n          end_for;\n        until a\n        end_repeat;\n      end_while;\n" +
		"  else\n    case m of\n      2:\n    else\n      x := 1;\n    end_case;\n  end_case;\nelse\n  repeat\n  until b\n  end_repeat;\nend_if;\n",
}

var lineEnd = regexp.MustCompile(`\n *`)

// short is what the chapter says of Short.
func short(text string) string {
	return strings.TrimSuffix(lineEnd.ReplaceAllString(text, " "), " ")
}

func TestTexts(t *testing.T) {
	for _, text := range texts {
		l, at, err := syntax.Text(text)
		if err != api.OK {
			t.Errorf("%q: %d, %d", text, at, err)
		}
		if got, err := print.Text(l); got != text || err != api.OK {
			t.Errorf("Text = %q, %d; want %q", got, err, text)
		}
		if got, err := print.Short(l); got != short(text) || err != api.OK {
			t.Errorf("Short = %q, %d; want %q", got, err, short(text))
		}
	}
	for _, x := range [][2]string{
		{"x:=(1+2)*3;", "x := (1 + 2) * 3;"}, {"x:=not(a and b);y:=(not a)and b;", "x := not (a and b); y := not a and b;"},
		{"if a then x:=((1)); end_if;", "if a then x := 1; end_if;"}, {"for i:=1 to 2 by 1 do end_for;", "for i := 1 to 2 do end_for;"},
		{"case n of 1,-2:x:=1;3:else end_case;", "case n of 1, -2: x := 1; 3: else end_case;"}, {"repeat exit;until a end_repeat;", "repeat exit; until a end_repeat;"},
	} {
		l, _, _ := syntax.Text(x[0])
		if got, err := print.Short(l); got != x[1] || err != api.OK {
			t.Errorf("Short of %q: %q, %d", x[0], got, err)
		}
	}
}

func wrongStatements() []api.Stmt {
	a := list(name("a"))
	itself := api.Stmt{Op: api.SWhile, Args: a, Body: make([]api.Stmt, 2)}
	itself.Body[0], itself.Body[1] = itself, itself
	l := []api.Stmt{
		{}, {Op: -1}, {Op: 10}, {Op: api.SSet, Args: a}, set("if", a[0]), {Op: api.SSet, Name: "x"}, {Op: api.SSet, Name: "x", Args: a, Index: list(a[0], a[0])},
		{Op: api.SSet, Name: "x", Args: a, N: 1}, {Op: api.SCall, Name: "f", Args: a}, {Op: api.SCall, Name: "f", Fields: list("q")}, {Op: api.SCall, Name: "f", Fields: list("end"), Args: a},
		{Op: api.SIf}, {Op: api.SIf, Args: a, Other: list(api.Stmt{Op: api.SExit})}, {Op: api.SIf, Args: a, Arms: make([]api.Arm, 1)}, {Op: api.SIf, Args: a, Body: make([]api.Stmt, 1)},
		{Op: api.SCase, Args: a, Arms: list(api.Arm{Labels: list(-2147483648)})}, {Op: api.SCase, Args: a, Arms: make([]api.Arm, 1)}, {Op: api.SCase},
		{Op: api.SFor, Name: "i", Args: list(a[0], a[0])}, {Op: api.SFor, Name: "i", Args: a, N: 1}, {Op: api.SWhile}, {Op: api.SRepeat}, {Op: api.SExit, Args: a}, {Op: api.SReturn, Else: true},
		itself,
	}
	for _, e := range wrongExpressions() {
		l = append(l, set("x", e))
	}
	return l
}

func TestWrongStatements(t *testing.T) {
	a := list(name("a"))
	for _, s := range wrongStatements() {
		for _, l := range [][]api.Stmt{list(s), {{Op: api.SExit}, s}, {{Op: api.SIf, Args: a, Body: list(s)}}, {{Op: api.SIf, Args: a, Else: true, Other: list(s)}}} {
			if got, err := print.Text(l); got != "" || err != api.ErrArg {
				t.Errorf("Text of a wrong %d: %q, %d", s.Op, got, err)
			}
			if got, err := print.Short(l); got != "" || err != api.ErrArg {
				t.Errorf("Short of a wrong %d: %q, %d", s.Op, got, err)
			}
		}
	}
}

func TestLargeStatements(t *testing.T) {
	exits := repeated(api.Stmt{Op: api.SExit}, 501)
	if got, err := print.Text(exits[:500]); got != strings.Repeat("exit;\n", 500) || err != api.OK {
		t.Errorf("Text of 500 statements: %d bytes, %d", len(got), err)
	}
	if got, err := print.Short(exits); got != "" || err != api.ErrArg {
		t.Errorf("Short of 501 statements: %d bytes, %d", len(got), err)
	}
	nested := list(api.Stmt{Op: api.SExit})
	want := strings.Repeat("  ", 13) + "exit;\n"
	for i := range 13 {
		nested = list(api.Stmt{Op: api.SWhile, Args: list(name("a")), Body: nested})
		margin := strings.Repeat("  ", 12-i)
		want = margin + "while a do\n" + want + margin + "end_while;\n"
	}
	if got, err := print.Text(nested); got != want || err != api.OK {
		t.Errorf("Text of the depth 14: %q, %d", got, err)
	}
	if got, err := print.Text(list(api.Stmt{Op: api.SWhile, Args: list(name("a")), Body: nested})); got != "" || err != api.ErrArg {
		t.Errorf("Text of the depth 15: %q, %d", got, err)
	}
	// A text can be longer than a source.
	labels := list(api.Stmt{Op: api.SCase, Args: list(name("a")), Arms: list(api.Arm{Labels: repeated(-7, 5000)})})
	if got, err := print.Text(labels); got != "case a of\n  "+strings.Repeat("-7, ", 4999)+"-7:\nend_case;\n" || err != api.OK {
		t.Errorf("Text of 5000 labels: %d bytes, %d", len(got), err)
	}
}

func randomStatements(r *rand.Rand, depth int) []api.Stmt {
	var l []api.Stmt
	for range r.Intn(4) {
		l = append(l, randomStatement(r, depth))
	}
	return l
}

func randomStatement(r *rand.Rand, depth int) api.Stmt {
	e := func() api.Expr { return randomExpr(r, 1+r.Intn(3)) }
	body := func() []api.Stmt {
		if depth <= 1 {
			return nil
		}
		return randomStatements(r, depth-1)
	}
	s := api.Stmt{Op: 1 + r.Intn(9), Args: list(e())}
	switch s.Op {
	case api.SSet:
		s.Name = randomName(r)
		if r.Intn(2) == 0 {
			s.Index = list(e())
		}
	case api.SCall:
		s.Name, s.Args = randomName(r), nil
		for range r.Intn(3) {
			s.Fields, s.Args = append(s.Fields, randomName(r)), append(s.Args, e())
		}
	case api.SIf:
		s.Body = body()
		for range r.Intn(3) {
			s.Arms = append(s.Arms, api.Arm{If: list(e()), Body: body()})
		}
	case api.SCase:
		for range r.Intn(3) {
			s.Arms = append(s.Arms, api.Arm{Labels: list(r.Intn(9)-4, r.Intn(1<<31))[r.Intn(2):], Body: body()})
		}
	case api.SFor:
		s.Name, s.N, s.Body = randomName(r), 1+r.Intn(3), body()
		s.Args = append(s.Args, e())
		if r.Intn(2) == 0 {
			s.N = -s.N
		}
	case api.SWhile, api.SRepeat:
		s.Body = body()
	default:
		s.Args = nil
	}
	if (s.Op == api.SIf || s.Op == api.SCase) && r.Intn(2) == 0 {
		s.Else, s.Other = true, body()
	}
	return s
}

// TestStatementsAgain is about P3.2: what is written is read again, and written in the same way.
func TestStatementsAgain(t *testing.T) {
	r := rand.New(rand.NewSource(2))
	for range 1500 {
		l := randomStatements(r, 1+r.Intn(4))
		if syntax.Check(l) != api.OK {
			continue
		}
		text, err := print.Text(l)
		line, err2 := print.Short(l)
		if err != api.OK || err2 != api.OK || line != short(text) {
			t.Fatalf("Text %q, %d; Short %q, %d", text, err, line, err2)
		}
		for _, s := range list(text, line) {
			if len(s) > api.MaxSource {
				continue
			}
			got, at, err := syntax.Text(s)
			again, err2 := print.Text(got)
			if err != api.OK || !syntax.Same(got, l) || err2 != api.OK || again != text {
				t.Fatalf("%q: read %v, %d, %d; written again %q", s, got, at, err, again)
			}
		}
	}
}

// TestUnchanged is about the rule of effects, and P2.
func TestUnchanged(t *testing.T) {
	for _, text := range texts {
		l, _, _ := syntax.Text(text)
		first, _ := print.Text(l)
		print.Short(l)
		second, _ := print.Text(l)
		m, _, _ := syntax.Text(text)
		if first != second || !syntax.Same(l, m) {
			t.Errorf("%q was changed", text)
		}
	}
}
