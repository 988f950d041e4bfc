package ebnf_test

import (
	"fmt"
	"math/rand"
	"strings"
	"testing"

	"winch/api"
	"winch/internal/ebnf"
	"winch/lexis"
)

func tokens(t *testing.T, source string) []api.Token {
	t.Helper()
	l, _, err := lexis.Tokens(source)
	if err != api.OK {
		t.Fatalf("%q: %d", source, err)
	}
	return l
}

func TestWrong(t *testing.T) {
	g := ebnf.Parse(`all = { pair } [ "end" ]          pair = N ( "+" | "-" ) number { "," number } ";" | "(" all ")"
		number = I | T | A | "step" J`)
	for _, x := range []struct {
		source string
		want   int
	}{
		{"", -1}, {"end", -1}, {"a + 1;", -1}, {"a - t#1, %i1, step 2; b + 0; end", -1}, {"(a + 1; (end)) end", -1}, {"()", -1},
		{"a", 1}, {"a + ;", 2}, {"a + 1", 3}, {"a + 1,;", 4}, {"a + step 0;", 3}, {"end end", 1}, {"(a + 1; end", 6}, {")", 0}, {"1", 0}, {"a * 1;", 1},
	} {
		if got := g.Wrong("all", tokens(t, x.source)); got != x.want {
			t.Errorf("Wrong(%q) = %d; want %d", x.source, got, x.want)
		}
	}
}

func TestDerive(t *testing.T) {
	r := rand.New(rand.NewSource(1))
	g := ebnf.Parse(`sum = product { "+" product }          product = item { "*" item }          item = N | I | T | A | J | "-" item | "(" sum ")" | "f" [ sum ]`)
	lengths := map[int]int{}
	for range 2000 {
		words := g.Derive("sum", r.Intn(9), r.Intn)
		source := strings.Join(words, " ")
		lengths[min(len(words), 4)]++
		if got := g.Wrong("sum", tokens(t, source)); got != -1 {
			t.Fatalf("Wrong(%q) = %d", source, got)
		}
	}
	if lengths[1] < 100 || lengths[2] < 50 || lengths[4] < 100 {
		t.Errorf("lengths: %v", lengths)
	}
}

func TestSpoil(t *testing.T) {
	r := rand.New(rand.NewSource(2))
	words := strings.Fields("a b c d")
	lengths := map[int]bool{}
	for range 1000 {
		lengths[len(ebnf.Spoil(words, []string{"x", "y"}, r.Intn))] = true
	}
	if strings.Join(words, " ") != "a b c d" || len(lengths) != 7 {
		t.Errorf("%v, lengths %v", words, lengths)
	}
}

// spoken has a trial in which the reader says the same of all sources, with these and what is complained about.
type spoken struct {
	ebnf.Trial
	sources, complaints []string
}

func newSpoken(at int, err api.Errno) *spoken {
	x := &spoken{}
	read := func(source string) ([]int, int, api.Errno) {
		x.sources = append(x.sources, source)
		return nil, at, err
	}
	complain := func(words ...any) { x.complaints = append(x.complaints, fmt.Sprint(words...)) }
	x.Trial = ebnf.Trial{Grammar: ebnf.Parse(`all = { sum }          sum = N { "+" N } ";"`), Start: "all", Part: "sum", Most: 2, Tokens: []string{"b", ";"},
		Read: ebnf.Positions(read, complain), Complain: complain}
	return x
}

func TestPieces(t *testing.T) {
	for _, x := range []struct {
		source string
		at     int
		err    api.Errno
		right  bool
	}{
		{"a+b;", 0, api.OK, true}, {"a+b;", 0, api.ErrFull, true}, {"a+b;", 1, api.OK, false}, {"a+b;", 0, api.ErrArg, false}, {"a+b;", 4, api.ErrSyntax, false}, {"", 0, api.OK, true},
		{"a+;", 2, api.ErrSyntax, true}, {"a+;", 1, api.ErrSyntax, false}, {"a+;", 0, api.OK, false}, {"a+;", 2, api.ErrFull, false}, {"a+", 2, api.ErrSyntax, true},
		{"a ?", 2, api.ErrSyntax, true}, {"; ?", 2, api.ErrSyntax, true}, {"; ?", 0, api.ErrSyntax, false},
	} {
		s := newSpoken(x.at, x.err)
		chosen := 0
		choose := func(n int) int {
			chosen++
			return 1
		}
		s.Pieces([]string{"?", x.source}, 3, choose)
		if (len(s.complaints) == 0) != x.right || len(s.complaints)%3 != 0 || strings.Join(s.sources, "|") != strings.Join([]string{x.source, x.source, x.source}, "|") || chosen != 6 {
			t.Errorf("%q, %d, %d: %q of %q, %d chosen", x.source, x.at, x.err, s.complaints, s.sources, chosen)
		}
	}
}

func TestBehind(t *testing.T) {
	// What the reader says is right where the first token is a semicolon.
	s := newSpoken(1, api.ErrSyntax)
	s.Behind("a  +")
	want := " | b| b ;| b x| ;| ; ;| ; x|a |a b|a b ;|a b x|a ;|a ; ;|a ; x|a + |a + b|a + b ;|a + b x|a + ;|a + ; ;|a + ; x"
	if got := strings.Join(s.sources, "|"); got != want || len(s.complaints) != len(s.sources)-3 {
		t.Errorf("%q: %q", got, s.complaints)
	}
}

func TestRandom(t *testing.T) {
	s := newSpoken(0, api.OK)
	s.Random(1000, rand.New(rand.NewSource(4)).Intn)
	if len(s.sources) != 1000 || len(s.complaints) < 200 || len(s.complaints) > 800 {
		t.Errorf("%d sources, %d complaints", len(s.sources), len(s.complaints))
	}
	// If there is no good source there is one complaint more.
	s = newSpoken(0, api.OK)
	s.Part, s.Grammar = "none", ebnf.Parse(`all = "end"          none = N`)
	s.Random(1000, rand.New(rand.NewSource(4)).Intn)
	if len(s.complaints) != 1001 || !strings.HasPrefix(s.complaints[1000], "only 0 good and 1000 bad") {
		t.Errorf("%d complaints", len(s.complaints))
	}
}

func TestPositions(t *testing.T) {
	for i, x := range []struct {
		l    []int
		err  api.Errno
		want int
	}{{nil, api.OK, 0}, {[]int{1}, api.OK, 0}, {nil, api.ErrFull, 0}, {[]int{}, api.ErrFull, 0}, {[]int{1}, api.ErrFull, 1}} {
		complaints := 0
		read := ebnf.Positions(func(string) ([]int, int, api.Errno) { return x.l, 7, x.err }, func(...any) { complaints++ })
		if at, err := read("a"); at != 7 || err != x.err || complaints != x.want {
			t.Errorf("case %d: %d, %d, %d complaints", i, at, err, complaints)
		}
	}
}

func TestExpressions(t *testing.T) {
	g := ebnf.Parse(ebnf.Expressions)
	for source, want := range map[string]int{"a": -1, "not a or -b * 3 xor f(x, t#5) and (n[1] = t1.q)": -1, "a b": 1, "a +": 2, "(a": 2, "not": 1, "a.1": 2, "": 0} {
		if got := g.Wrong("expression", tokens(t, source)); got != want {
			t.Errorf("Wrong(%q) = %d; want %d", source, got, want)
		}
	}
}
