// Package reading reads sources token by token: it is what the grammars of the layers have in common.
package reading

import (
	"strconv"

	"winch/api"
	"winch/lexis"
)

// Reader reads the tokens of a source, the last of which is a TEnd; at is the next one.
type Reader struct {
	source string
	tokens []api.Token
	at     int
	// full is whether a part has been read that is not well formed, so that the whole is not, either.
	full bool
}

// wrong is what a Reader panics with: the position of a token that cannot stand where it does.
type wrong struct{ at int }

// Whole reads a source that is one part, and nothing else; with an error it returns the position.
func Whole[T any](source string, part func(*Reader) T) (result T, at int, err api.Errno) {
	var none T
	tokens, at, err := lexis.Tokens(source)
	if err != api.OK {
		return none, at, err
	}
	defer func() {
		if x := recover(); x != nil {
			w, _ := x.(wrong)
			result, at, err = none, w.at, api.ErrSyntax
		}
	}()
	r := &Reader{source: source, tokens: tokens}
	result = part(r)
	r.end()
	if r.full {
		return none, 0, api.ErrFull
	}
	return result, 0, api.OK
}

// Part reads what another layer reads, as much of it as there is from the next token on: what that layer finds wrong in the
// source from there is the first token after its part. The part ends at the position last, or before it.
func Part[T any](r *Reader, last int, read func(string) (T, int, api.Errno)) T {
	from, to := r.Token().At, last
	part, at, err := read(r.source[from:to])
	if err == api.ErrSyntax {
		to = from + at
		part, _, err = read(r.source[from:to])
	}
	for r.Token().At < to {
		r.Next()
	}
	switch err {
	case api.ErrSyntax:
		r.Fail()
	case api.ErrFull:
		r.full = true
	}
	return part
}

// Sequence reads one or more members with commas between them.
func Sequence[T any](r *Reader, member func() T) []T {
	l := []T{member()}
	for r.Accept(",") {
		next := member()
		l = append(l, next)
	}
	return l
}

// Token returns the next token.
func (r *Reader) Token() api.Token {
	return r.tokens[r.at]
}

// Next goes to the token after the next one. It must not be called at the end.
func (r *Reader) Next() {
	r.at++
}

// Fail ends the reading because of the next token.
func (r *Reader) Fail() {
	panic(wrong{r.Token().At})
}

// Is reports whether the next tokens are certain words and signs. (The texts of all other tokens are different from those.)
func (r *Reader) Is(texts ...string) bool {
	for i, text := range texts {
		if r.at+i >= len(r.tokens) || r.tokens[r.at+i].Text != text {
			return false
		}
	}
	return true
}

// Accept takes a word or a sign, if it is there.
func (r *Reader) Accept(text string) bool {
	if !r.Is(text) {
		return false
	}
	r.Next()
	return true
}

// Expect takes a word or a sign that must be there.
func (r *Reader) Expect(text string) {
	if !r.Accept(text) {
		r.Fail()
	}
}

// Name takes a name that must be there.
func (r *Reader) Name() string {
	return r.take(api.TName)
}

// Number takes a numeral that must be there, and returns its number.
func (r *Reader) Number() int {
	return number(r.take(api.TInt))
}

// Time takes a time that must be there, and returns its number.
func (r *Reader) Time() int {
	return number(r.take(api.TTime)[len("t#"):])
}

// Address takes an address that must be there.
func (r *Reader) Address() string {
	return r.take(api.TAt)
}

// Full says that what has been read is not well formed, for a reason that its value does not show.
func (r *Reader) Full() {
	r.full = true
}

// Length returns the length of the source, at which every part ends at the latest.
func (r *Reader) Length() int {
	return len(r.source)
}

// Extent returns the position at which an expression that begins with the next token ends at the latest: that of the next
// semicolon, of the next comma or closing bracket that is in no brackets, or of the end.
func (r *Reader) Extent() int {
	return r.until(func(t api.Token, open int) bool { return t.Text == ";" || open == 0 && t.Text == "," })
}

// Inside returns the position at which what stands in brackets ends at the latest, the first of which has been read: that of the
// bracket that closes them, or of the end.
func (r *Reader) Inside() int {
	return r.until(func(api.Token, int) bool { return false })
}

// until returns the position of the next token that ends something, where so many brackets are open, or that closes a bracket
// that was open before, or of the end.
func (r *Reader) until(ends func(t api.Token, open int) bool) int {
	open := 0
	for at := r.at; ; at++ {
		t := r.tokens[at]
		switch t.Text {
		case "(", "[":
			open++
		case ")", "]":
			open--
		}
		if t.Kind == api.TEnd || open < 0 || ends(t, open) {
			return t.At
		}
	}
}

// take takes a token of a kind that must be there, and returns its text.
func (r *Reader) take(kind int) string {
	t := r.Token()
	if t.Kind != kind {
		r.Fail()
	}
	r.Next()
	return t.Text
}

func (r *Reader) end() {
	if r.Token().Kind != api.TEnd {
		r.Fail()
	}
}

// number returns the number of a numeral, whose size lexis has checked.
func number(numeral string) int {
	n, _ := strconv.Atoi(numeral)
	return n
}
