package syntax

import (
	"winch/api"
	"winch/reading"
)

// reader reads the tokens of a source; statements has what reads those that begin with a word.
type reader struct {
	*reading.Reader
	statements map[string]func() api.Stmt
}

// whole reads a source that is one part, and nothing else.
func whole[T any](source string, part func(*reader) T) (T, int, api.Errno) {
	return reading.Whole(source, func(r *reading.Reader) T { return part(newReader(r)) })
}

func newReader(tokens *reading.Reader) *reader {
	r := &reader{Reader: tokens}
	r.statements = map[string]func() api.Stmt{
		"if":     r.choice,
		"case":   r.selection,
		"for":    r.count,
		"while":  r.while,
		"repeat": r.repeat,
		"exit":   r.exit,
		"return": r.leave,
	}
	return r
}

// sign takes the sign of a label, and returns the number by which it multiplies.
func (r *reader) sign() int {
	if r.Accept("-") {
		return -1
	}
	return 1
}

// label reads a number with or without a sign.
func (r *reader) label() int {
	sign := r.sign()
	return sign * r.Number()
}

// by reads a label other than 0; the numeral 0 is what is wrong in one, with or without a sign before it.
func (r *reader) by() int {
	sign := r.sign()
	if r.Is("0") {
		r.Fail()
	}
	return sign * r.Number()
}
