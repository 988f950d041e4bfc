package syntax_test

import (
	"math/rand"
	"strings"
	"testing"

	"winch/api"
	"winch/internal/ebnf"
	"winch/syntax"
)

var randomTokens = strings.Fields("x y t1 f 0 1 5 t#5 true false not and or xor mod + - * / = <> < <= > >= ( ) [ ] , ; : . := if then elsif else" +
	" end_if case of end_case for to by do end_for while end_while repeat until end_repeat exit return & | -> %i1 end add step")

// trials hold the readers of statements and of expressions against the grammar.
func trials(t *testing.T) map[string]ebnf.Trial {
	g := ebnf.Parse(ebnf.Statements + ebnf.Expressions)
	expression := func(source string) (int, api.Errno) {
		_, at, err := syntax.Expr(source)
		return at, err
	}
	return map[string]ebnf.Trial{
		"text":       {Grammar: g, Start: "text", Part: "statement", Most: 2, Tokens: randomTokens, Read: ebnf.Positions(syntax.Text, t.Error), Complain: t.Error},
		"expression": {Grammar: g, Start: "expression", Part: "expression", Most: 1, Tokens: randomTokens, Read: expression, Complain: t.Error},
	}
}

func TestFirstWrongToken(t *testing.T) {
	for _, trial := range trials(t) {
		trial.Random(4000, rand.New(rand.NewSource(3)).Intn)
	}
}

// TestFirstWrongTokenAnywhere puts each token behind each beginning of some sources.
func TestFirstWrongTokenAnywhere(t *testing.T) {
	for _, x := range [][2]string{
		{"text", "if not a then x [ 1 ] := - 2 ; elsif b . q then f ( ) ; else exit ; end_if ;"},
		{"text", "case n of 1 , - 2 : x := 1 ; 0 : else return ; end_case ;"},
		{"text", "for i := 1 to f ( 2 , a ) by - 2 do t1 ( in := a , pt := t#5 ) ; end_for ;"},
		{"text", "while ( a ) do end_while ; repeat until a end_repeat ;"},
		{"expression", "not a or b xor c [ d . e ] and f ( ) = - 1 < 2 + 3 * ( 4 - t#5 ) mod true"},
	} {
		trials(t)[x[0]].Behind(x[1])
	}
}
