package ebnf_test

import (
	"math/rand"
	"strings"
	"testing"

	"winch/api"
	"winch/internal/ebnf"
	"winch/lexis"
)

func tokens(t *testing.T, source string) []api.Token {
	t.Helper()
	l, _, err := lexis.Tokens(source)
	if err != api.OK {
		t.Fatalf("%q: %d", source, err)
	}
	return l
}

func TestWrong(t *testing.T) {
	g := ebnf.Parse(`all = { pair } [ "end" ]          pair = N ( "+" | "-" ) number { "," number } ";" | "(" all ")"
		number = I | T | A | "step" J`)
	for _, x := range []struct {
		source string
		want   int
	}{
		{"", -1}, {"end", -1}, {"a + 1;", -1}, {"a - t#1, %i1, step 2; b + 0; end", -1}, {"(a + 1; (end)) end", -1}, {"()", -1},
		{"a", 1}, {"a + ;", 2}, {"a + 1", 3}, {"a + 1,;", 4}, {"a + step 0;", 3}, {"end end", 1}, {"(a + 1; end", 6}, {")", 0}, {"1", 0}, {"a * 1;", 1},
	} {
		if got := g.Wrong("all", tokens(t, x.source)); got != x.want {
			t.Errorf("Wrong(%q) = %d; want %d", x.source, got, x.want)
		}
	}
}

func TestDerive(t *testing.T) {
	r := rand.New(rand.NewSource(1))
	g := ebnf.Parse(`sum = product { "+" product }          product = item { "*" item }          item = N | I | T | A | J | "-" item | "(" sum ")" | "f" [ sum ]`)
	lengths := map[int]int{}
	for range 2000 {
		words := g.Derive("sum", r.Intn(9), r.Intn)
		source := strings.Join(words, " ")
		lengths[min(len(words), 4)]++
		if got := g.Wrong("sum", tokens(t, source)); got != -1 {
			t.Fatalf("Wrong(%q) = %d", source, got)
		}
	}
	if lengths[1] < 100 || lengths[2] < 50 || lengths[4] < 100 {
		t.Errorf("lengths: %v", lengths)
	}
}

func TestSpoil(t *testing.T) {
	r := rand.New(rand.NewSource(2))
	words := strings.Fields("a b c d")
	lengths := map[int]bool{}
	for range 1000 {
		lengths[len(ebnf.Spoil(words, []string{"x", "y"}, r.Intn))] = true
	}
	if strings.Join(words, " ") != "a b c d" || len(lengths) != 7 {
		t.Errorf("%v, lengths %v", words, lengths)
	}
}
