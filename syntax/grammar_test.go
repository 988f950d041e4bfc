package syntax_test

// This file has the grammar of the chapter as data, and a recognizer after Earley for it, as a second opinion on which token is
// the first that cannot stand where it does.

import (
	"math/rand"
	"strings"
	"testing"

	"winch/api"
	"winch/lexis"
	"winch/syntax"
)

// grammar has the productions of each symbol, with "," written for a comma and nothing for an empty one. N, I, T and NZ are
// names, numerals, times and numerals other than 0.
var grammar = map[string]string{
	"TEXT": "| TEXT STATEMENT",
	"STATEMENT": `N := E ; | N [ E ] := E ; | N ( ) ; | N ( INPUTS ) ;
		| if E then TEXT ELSIFS ELSE end_if ; | case E of ARMS ELSE end_case ; | for N := E to E BY do TEXT end_for ;
		| while E do TEXT end_while ; | repeat TEXT until E end_repeat ; | exit ; | return ;`,
	"INPUTS":  "N := E | INPUTS , N := E",
	"ELSIFS":  "| ELSIFS elsif E then TEXT",
	"ELSE":    "| else TEXT",
	"ARMS":    "| ARMS LABELS : TEXT",
	"LABELS":  "LABEL | LABELS , LABEL",
	"LABEL":   "I | - I",
	"BY":      "| by NZ | by - NZ",
	"E":       "XOR | E or XOR",
	"XOR":     "AND | XOR xor AND",
	"AND":     "EQUAL | AND and EQUAL",
	"EQUAL":   "ORDER | EQUAL = ORDER | EQUAL <> ORDER",
	"ORDER":   "SUM | ORDER < SUM | ORDER <= SUM | ORDER > SUM | ORDER >= SUM",
	"SUM":     "PRODUCT | SUM + PRODUCT | SUM - PRODUCT",
	"PRODUCT": "UNARY | PRODUCT * UNARY | PRODUCT / UNARY | PRODUCT mod UNARY",
	"UNARY":   "not UNARY | - UNARY | I | T | true | false | N | N . N | N [ E ] | N ( ) | N ( ARGS ) | ( E )",
	"ARGS":    "E | ARGS , E",
}

// productions returns grammar with its symbols apart. (The sign | is none of it.)
func productions() map[string][][]string {
	m := map[string][][]string{}
	for symbol, text := range grammar {
		for _, p := range strings.Split(text, "|") {
			m[symbol] = append(m[symbol], strings.Fields(p))
		}
	}
	return m
}

// item is a production of a symbol that has been read up to a position, from the token from on.
type item struct {
	symbol     string
	production int
	dot, from  int
}

type recognizer struct {
	rules map[string][][]string
	sets  [][]item
	seen  []map[item]bool
}

func newRecognizer() *recognizer { return &recognizer{rules: productions()} }

func (r *recognizer) add(set int, x item) {
	for len(r.sets) <= set {
		r.sets = append(r.sets, nil)
		r.seen = append(r.seen, map[item]bool{})
	}
	if !r.seen[set][x] {
		r.seen[set][x] = true
		r.sets[set] = append(r.sets[set], x)
	}
}

func (r *recognizer) next(x item) string {
	p := r.rules[x.symbol][x.production]
	if x.dot == len(p) {
		return ""
	}
	return p[x.dot]
}

// close predicts and completes items of a set until nothing is new; empty productions may need a second look.
func (r *recognizer) close(set int) {
	for before := -1; before != len(r.sets[set]); {
		before = len(r.sets[set])
		for i := 0; i < len(r.sets[set]); i++ {
			x := r.sets[set][i]
			s := r.next(x)
			if s == "" {
				for j := 0; j < len(r.sets[x.from]); j++ {
					if y := r.sets[x.from][j]; r.next(y) == x.symbol {
						r.add(set, item{y.symbol, y.production, y.dot + 1, y.from})
					}
				}
			}
			for p := range r.rules[s] {
				r.add(set, item{s, p, 0, set})
			}
		}
	}
}

func matches(terminal string, t api.Token) bool {
	switch terminal {
	case "N":
		return t.Kind == api.TName
	case "I":
		return t.Kind == api.TInt
	case "NZ":
		return t.Kind == api.TInt && t.Text != "0"
	case "T":
		return t.Kind == api.TTime
	}
	return t.Text == terminal
}

// wrong returns the position of the first of tokens (the last of which is a TEnd) that cannot be there, -1 if there is none.
func (r *recognizer) wrong(start string, tokens []api.Token) int {
	r.sets, r.seen = nil, nil
	for p := range r.rules[start] {
		r.add(0, item{start, p, 0, 0})
	}
	for i, t := range tokens {
		r.close(i)
		if t.Kind == api.TEnd {
			for _, x := range r.sets[i] {
				if x.symbol == start && x.from == 0 && r.next(x) == "" {
					return -1
				}
			}
			return i
		}
		for _, x := range r.sets[i] {
			if s := r.next(x); s != "" && r.rules[s] == nil && matches(s, t) {
				r.add(i+1, item{x.symbol, x.production, x.dot + 1, x.from})
			}
		}
		if len(r.sets) == i+1 {
			return i
		}
	}
	return len(tokens)
}

var randomTokens = strings.Fields("x y t1 f 0 1 5 t#5 true false not and or xor mod + - * / = <> < <= > >= ( ) [ ] , ; : . := if then elsif else" +
	" end_if case of end_case for to by do end_for while end_while repeat until end_repeat exit return & | -> %i1 end add step")

// derive writes a random text of a symbol; the less is left of the depth, the shorter are the productions.
func derive(r *rand.Rand, rules map[string][][]string, symbol string, depth int, out []string) []string {
	switch symbol {
	case "N":
		return append(out, []string{"x", "y", "t1"}[r.Intn(3)])
	case "I":
		return append(out, []string{"0", "1", "5"}[r.Intn(3)])
	case "NZ":
		return append(out, "2")
	case "T":
		return append(out, "t#5")
	}
	if rules[symbol] == nil {
		return append(out, symbol)
	}
	p := rules[symbol][0]
	if depth > 0 {
		p = rules[symbol][r.Intn(len(rules[symbol]))]
	} else if symbol == "UNARY" {
		p = []string{"N"}
	}
	for _, s := range p {
		out = derive(r, rules, s, depth-1, out)
	}
	return out
}

// spoil changes some tokens.
func spoil(r *rand.Rand, l []string) []string {
	l = append([]string(nil), l...)
	for range r.Intn(3) {
		if len(l) == 0 {
			return l
		}
		i := r.Intn(len(l))
		switch r.Intn(4) {
		case 0:
			l[i] = randomTokens[r.Intn(len(randomTokens))]
		case 1:
			l = append(l[:i], l[i+1:]...)
		case 2:
			l = append(l[:i], append([]string{randomTokens[r.Intn(len(randomTokens))]}, l[i:]...)...)
		case 3:
			l = l[:i]
		}
	}
	return l
}

func TestFirstWrongToken(t *testing.T) {
	random := rand.New(rand.NewSource(3))
	r := newRecognizer()
	good, bad := 0, 0
	for range 6000 {
		start, symbol := "TEXT", "STATEMENT"
		if random.Intn(3) == 0 {
			start, symbol = "E", "E"
		}
		words := spoil(random, derive(random, r.rules, symbol, 3+random.Intn(12), nil))
		if len(words) > 60 {
			continue
		}
		source := strings.Join(words, " ")
		tokens, _, e := lexis.Tokens(source)
		if e != api.OK {
			t.Fatalf("%q: %d", source, e)
		}
		wrong := r.wrong(start, tokens)
		at, e := readAs(start, source)
		if wrong >= 0 {
			bad++
			if e != api.ErrSyntax || at != tokens[wrong].At {
				t.Errorf("%q: %d, %d; want position %d", source, at, e, tokens[wrong].At)
			}
		} else {
			good++
			if at != 0 || e != api.OK && e != api.ErrFull {
				t.Errorf("%q: %d, %d; want none", source, at, e)
			}
		}
	}
	if good < 500 || bad < 500 {
		t.Errorf("only %d good and %d bad sources", good, bad)
	}
}

// TestFirstWrongTokenAnywhere puts each token behind each beginning of some sources.
func TestFirstWrongTokenAnywhere(t *testing.T) {
	r := newRecognizer()
	for _, x := range [][2]string{
		{"TEXT", "if not a then x [ 1 ] := - 2 ; elsif b . q then f ( ) ; else exit ; end_if ;"},
		{"TEXT", "case n of 1 , - 2 : x := 1 ; 0 : else return ; end_case ;"},
		{"TEXT", "for i := 1 to f ( 2 , a ) by - 2 do t1 ( in := a , pt := t#5 ) ; end_for ;"},
		{"TEXT", "while ( a ) do end_while ; repeat until a end_repeat ;"},
		{"E", "not a or b xor c [ d . e ] and f ( ) = - 1 < 2 + 3 * ( 4 - t#5 ) mod true"},
	} {
		words := strings.Fields(x[1])
		for i := range len(words) + 1 {
			for _, w := range append(randomTokens, "") {
				source := strings.Join(words[:i], " ") + " " + w
				tokens, _, _ := lexis.Tokens(source)
				wrong := r.wrong(x[0], tokens)
				at, e := readAs(x[0], source)
				if (wrong < 0) != (e == api.OK) || wrong >= 0 && (e != api.ErrSyntax || at != tokens[wrong].At) {
					t.Errorf("%q: %d, %d; want that of token %d", source, at, e, wrong)
				}
			}
		}
	}
}

func readAs(start, source string) (int, api.Errno) {
	if start == "E" {
		_, at, e := syntax.Expr(source)
		return at, e
	}
	_, at, e := syntax.Text(source)
	return at, e
}
