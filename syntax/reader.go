package syntax

import (
	"strconv"

	"winch/api"
	"winch/lexis"
)

// reader reads tokens, the last of which is a TEnd; at is the next one.
type reader struct {
	tokens     []api.Token
	at         int
	statements map[string]func() api.Stmt
}

// wrong is what a reader panics with: the position of a token that cannot stand where it does.
type wrong struct{ at int }

// whole reads a source that is one part, and nothing else.
func whole[T any](source string, part func(*reader) T) (result T, at int, err api.Errno) {
	tokens, at, err := lexis.Tokens(source)
	if err != api.OK {
		return result, at, err
	}
	defer func() {
		if x := recover(); x != nil {
			var none T
			w, _ := x.(wrong)
			result, at, err = none, w.at, api.ErrSyntax
		}
	}()
	r := newReader(tokens)
	result = part(r)
	r.end()
	return result, 0, api.OK
}

func newReader(tokens []api.Token) *reader {
	r := &reader{tokens: tokens}
	r.statements = map[string]func() api.Stmt{
		"if":     r.choice,
		"case":   r.selection,
		"for":    r.count,
		"while":  r.while,
		"repeat": r.repeat,
		"exit":   r.exit,
		"return": r.leave,
	}
	return r
}

func (r *reader) token() api.Token {
	return r.tokens[r.at]
}

// fail ends the reading because of the next token.
func (r *reader) fail() {
	panic(wrong{r.token().At})
}

// is reports whether the next token is a certain word or sign. (The texts of all other tokens are different from those.)
func (r *reader) is(text string) bool {
	return r.token().Text == text
}

// accept takes a word or a sign, if it is there.
func (r *reader) accept(text string) bool {
	if !r.is(text) {
		return false
	}
	r.at++
	return true
}

// expect takes a word or a sign that must be there.
func (r *reader) expect(text string) {
	if !r.accept(text) {
		r.fail()
	}
}

// take takes a token of a kind that must be there, and returns its text.
func (r *reader) take(kind int) string {
	t := r.token()
	if t.Kind != kind {
		r.fail()
	}
	r.at++
	return t.Text
}

func (r *reader) end() {
	if r.token().Kind != api.TEnd {
		r.fail()
	}
}

func (r *reader) name() string {
	return r.take(api.TName)
}

// label reads a number with or without a sign.
func (r *reader) label() int {
	negative := r.accept("-")
	n := number(r.take(api.TInt))
	if negative {
		return -n
	}
	return n
}

// number returns the number of a numeral, whose size lexis has checked.
func number(numeral string) int {
	n, _ := strconv.Atoi(numeral)
	return n
}
