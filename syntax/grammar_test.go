package syntax_test

import (
	"math/rand"
	"strings"
	"testing"

	"winch/api"
	"winch/internal/ebnf"
	"winch/lexis"
	"winch/syntax"
)

// grammar is that of the chapter, in which the by of a for (J) is not 0.
const grammar = `
text = { statement }
statement = N [ "[" expression "]" ] ":=" expression ";"
          | N "(" [ N ":=" expression { "," N ":=" expression } ] ")" ";"
          | "if" expression "then" text { "elsif" expression "then" text } [ "else" text ] "end_if" ";"
          | "case" expression "of" { label { "," label } ":" text } [ "else" text ] "end_case" ";"
          | "for" N ":=" expression "to" expression [ "by" [ "-" ] J ] "do" text "end_for" ";"
          | "while" expression "do" text "end_while" ";"
          | "repeat" text "until" expression "end_repeat" ";"
          | "exit" ";" | "return" ";"
label = [ "-" ] I
expression = xor { "or" xor }          xor = and { "xor" and }          and = equal { "and" equal }
equal = order { ( "=" | "<>" ) order }          order = sum { ( "<" | "<=" | ">" | ">=" ) sum }
sum = product { ( "+" | "-" ) product }          product = unary { ( "*" | "/" | "mod" ) unary }
unary = ( "not" | "-" ) unary | constant | N [ "." N | "[" expression "]" | "(" [ expression { "," expression } ] ")" ] | "(" expression ")"
constant = I | T | "true" | "false"
`

var randomTokens = strings.Fields("x y t1 f 0 1 5 t#5 true false not and or xor mod + - * / = <> < <= > >= ( ) [ ] , ; : . := if then elsif else" +
	" end_if case of end_case for to by do end_for while end_while repeat until end_repeat exit return & | -> %i1 end add step")

func TestFirstWrongToken(t *testing.T) {
	random := rand.New(rand.NewSource(3))
	g := ebnf.Parse(grammar)
	good, bad := 0, 0
	for range 6000 {
		start, symbol := "text", "statement"
		if random.Intn(3) == 0 {
			start, symbol = "expression", "expression"
		}
		words := ebnf.Spoil(g.Derive(symbol, 3+random.Intn(12), random.Intn), randomTokens, random.Intn)
		if len(words) > 60 {
			continue
		}
		source := strings.Join(words, " ")
		tokens, _, e := lexis.Tokens(source)
		if e != api.OK {
			t.Fatalf("%q: %d", source, e)
		}
		wrong := g.Wrong(start, tokens)
		at, e := readAs(start, source)
		if wrong >= 0 {
			bad++
			if e != api.ErrSyntax || at != tokens[wrong].At {
				t.Errorf("%q: %d, %d; want position %d", source, at, e, tokens[wrong].At)
			}
		} else {
			good++
			if at != 0 || e != api.OK && e != api.ErrFull {
				t.Errorf("%q: %d, %d; want none", source, at, e)
			}
		}
	}
	if good < 500 || bad < 500 {
		t.Errorf("only %d good and %d bad sources", good, bad)
	}
}

// TestFirstWrongTokenAnywhere puts each token behind each beginning of some sources.
func TestFirstWrongTokenAnywhere(t *testing.T) {
	g := ebnf.Parse(grammar)
	for _, x := range [][2]string{
		{"text", "if not a then x [ 1 ] := - 2 ; elsif b . q then f ( ) ; else exit ; end_if ;"},
		{"text", "case n of 1 , - 2 : x := 1 ; 0 : else return ; end_case ;"},
		{"text", "for i := 1 to f ( 2 , a ) by - 2 do t1 ( in := a , pt := t#5 ) ; end_for ;"},
		{"text", "while ( a ) do end_while ; repeat until a end_repeat ;"},
		{"expression", "not a or b xor c [ d . e ] and f ( ) = - 1 < 2 + 3 * ( 4 - t#5 ) mod true"},
	} {
		words := strings.Fields(x[1])
		for i := range len(words) + 1 {
			for _, w := range append(randomTokens, "") {
				source := strings.Join(words[:i], " ") + " " + w
				tokens, _, _ := lexis.Tokens(source)
				wrong := g.Wrong(x[0], tokens)
				at, e := readAs(x[0], source)
				if (wrong < 0) != (e == api.OK) || wrong >= 0 && (e != api.ErrSyntax || at != tokens[wrong].At) {
					t.Errorf("%q: %d, %d; want that of token %d", source, at, e, wrong)
				}
			}
		}
	}
}

func readAs(start, source string) (int, api.Errno) {
	if start == "expression" {
		_, at, e := syntax.Expr(source)
		return at, e
	}
	_, at, e := syntax.Text(source)
	return at, e
}
