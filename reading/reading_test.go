package reading_test

import (
	"slices"
	"testing"

	"winch/api"
	"winch/reading"
	"winch/syntax"
)

// calls reads names with expressions; of an expression it returns an e.
func calls(r *reading.Reader) []string {
	var l []string
	expression := func() string {
		reading.Part(r, r.Extent(), syntax.Expr)
		return "e"
	}
	for r.Token().Kind == api.TName {
		l = append(l, r.Name())
		r.Expect("(")
		l = append(l, reading.Sequence(r, expression)...)
		r.Expect(")")
		r.Expect(";")
	}
	return l
}

func TestExpressionsInside(t *testing.T) {
	for _, x := range []struct {
		source string
		want   []string
		at     int
		err    api.Errno
	}{
		{"", nil, 0, api.OK},
		{"a(1);", []string{"a", "e"}, 0, api.OK},
		{"a(1); b((2), 7);", []string{"a", "e", "b", "e", "e"}, 0, api.OK},
		{"a(f(1, (2)), x[3]) // c\n ; b(c);", []string{"a", "e", "e", "b", "e"}, 0, api.OK},
		{"a(f(1, (2)), x[3, 4]);", nil, 16, api.ErrSyntax},
		{"a", nil, 1, api.ErrSyntax},
		{"a(1", nil, 3, api.ErrSyntax},
		{"a(1,", nil, 4, api.ErrSyntax},
		{"a(,1);", nil, 2, api.ErrSyntax},
		{"a(1 2);", nil, 4, api.ErrSyntax},
		{"a(1]);", nil, 3, api.ErrSyntax},
		{"a(x[1);", nil, 5, api.ErrSyntax},
		{"a(x(1;", nil, 5, api.ErrSyntax},
		{"a(1); ;", nil, 6, api.ErrSyntax},
		{"a(1 ?", nil, 4, api.ErrSyntax},
		{"a(--------------1);", nil, 0, api.ErrFull},
		{"a(--------------1); b", nil, 21, api.ErrSyntax},
	} {
		l, at, err := reading.Whole(x.source, calls)
		if !slices.Equal(l, x.want) || at != x.at || err != x.err {
			t.Errorf("%q: %v, %d, %d; want %v, %d, %d", x.source, l, at, err, x.want, x.at, x.err)
		}
	}
}

// TestTextInBrackets has parts of which it is known where they end at the latest.
func TestTextInBrackets(t *testing.T) {
	for _, x := range []struct {
		source string
		want   int
		at     int
		err    api.Errno
	}{
		{"()", 0, 0, api.OK}, {"(exit; x[(1)] := f(2); )", 2, 0, api.OK}, {"(exit", 0, 5, api.ErrSyntax}, {"(", 0, 1, api.ErrSyntax}, {"(exit;]", 0, 6, api.ErrSyntax}, {"(exit; 1)", 0, 7, api.ErrSyntax}, {"(x[1) := 2;)", 0, 4, api.ErrSyntax},
		{"(exit;))", 0, 7, api.ErrSyntax}, {"(x := 1 // )\n;)", 1, 0, api.OK}, {"(x := (1;)", 0, 8, api.ErrSyntax}, {"(x := --------------1;)", 0, 0, api.ErrFull}, {"(x := --------------1; 2)", 0, 23, api.ErrSyntax},
	} {
		n, at, err := reading.Whole(x.source, func(r *reading.Reader) int {
			r.Expect("(")
			l := reading.Part(r, r.Inside(), syntax.Text)
			r.Expect(")")
			return len(l)
		})
		if n != x.want || at != x.at || err != x.err {
			t.Errorf("%q: %d, %d, %d; want %d, %d, %d", x.source, n, at, err, x.want, x.at, x.err)
		}
	}
}

// TestTextInside has parts that end before the end of what is looked at.
func TestTextInside(t *testing.T) {
	for _, x := range []struct {
		source string
		want   int
		at     int
		err    api.Errno
	}{
		{"do end", 0, 0, api.OK},
		{"do exit; exit; end", 2, 0, api.OK},
		{"do exit; exit end", 0, 14, api.ErrSyntax},
		{"do exit; end end", 0, 13, api.ErrSyntax},
		{"do exit;", 0, 8, api.ErrSyntax},
		{"do x := --------------1; end", 0, 0, api.ErrFull},
	} {
		n, at, err := reading.Whole(x.source, func(r *reading.Reader) int {
			r.Expect("do")
			l := reading.Part(r, r.Length(), syntax.Text)
			r.Expect("end")
			return len(l)
		})
		if n != x.want || at != x.at || err != x.err {
			t.Errorf("%q: %d, %d, %d; want %d, %d, %d", x.source, n, at, err, x.want, x.at, x.err)
		}
	}
}

func TestTokens(t *testing.T) {
	got, _, err := reading.Whole("a := t#5, 7", func(r *reading.Reader) []bool {
		l := []bool{r.Is("a"), r.Is("a", ":="), !r.Is("a", "="), !r.Is("a", ":=", "t#5", ",", "7", "", "")}
		name := r.Name()
		r.Expect(":=")
		time := r.Time()
		l = append(l, name == "a", time == 5, r.Is(",", "7"), !r.Accept(";"), r.Accept(","))
		number := r.Number()
		return append(l, number == 7)
	})
	if len(got) != 10 || slices.Contains(got, false) || err != api.OK {
		t.Errorf("%v, %d", got, err)
	}
	if at, _, err := reading.Whole("%i5", (*reading.Reader).Address); at != "%i5" || err != api.OK {
		t.Errorf("address: %q, %d", at, err)
	}
	for _, take := range []func(*reading.Reader){func(r *reading.Reader) { r.Name() }, func(r *reading.Reader) { r.Time() }, func(r *reading.Reader) { r.Address() }, (*reading.Reader).Fail} {
		n, at, err := reading.Whole(" 7", func(r *reading.Reader) int { take(r); return 1 })
		if n != 0 || at != 1 || err != api.ErrSyntax {
			t.Errorf("wrong token: %d, %d, %d", n, at, err)
		}
	}
}

func TestFull(t *testing.T) {
	full := func(r *reading.Reader) string {
		r.Full()
		return r.Name()
	}
	for source, want := range map[string]api.Errno{"a": api.ErrFull, "a b": api.ErrSyntax, "1": api.ErrSyntax, "?": api.ErrSyntax} {
		at := 0
		if source == "a b" {
			at = 2
		}
		if name, got, err := reading.Whole(source, full); name != "" || got != at || err != want {
			t.Errorf("%q: %q, %d, %d", source, name, got, err)
		}
	}
}
