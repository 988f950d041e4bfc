package ebnf

import (
	"strconv"
	"strings"

	"winch/api"
	"winch/lexis"
)

// Trial holds a reader against a grammar, and complains about what the reader says wrongly.
type Trial struct {
	Grammar Grammar
	// Start is the symbol of the sources that are read; up to Most of the symbol Part, one after the other, are such sources.
	Start, Part string
	Most        int
	// Tokens are some that sources are spoiled with.
	Tokens []string
	// Read returns the position of what is wrong, and the error.
	Read     func(source string) (int, api.Errno)
	Complain func(words ...any)
}

// Positions returns what a trial reads with: a reader that must not return anything but the position together with an error.
func Positions[T any](read func(source string) ([]T, int, api.Errno), complain func(words ...any)) func(source string) (int, api.Errno) {
	return func(source string) (int, api.Errno) {
		l, at, err := read(source)
		if err != api.OK && len(l) != 0 {
			complain(strconv.Quote(source) + " has something with the error " + strconv.Itoa(int(err)))
		}
		return at, err
	}
}

// Random tries random sources, some of them spoiled.
func (x Trial) Random(count int, choose func(n int) int) {
	const longest = 60
	good, bad := 0, 0
	for range count {
		var words []string
		for range choose(x.Most + 1) {
			words = append(words, x.Grammar.Derive(x.Part, 3+choose(12), choose)...)
		}
		words = Spoil(words, x.Tokens, choose)
		if len(words) > longest {
			continue
		}
		if x.try(strings.Join(words, " ")) {
			good++
		} else {
			bad++
		}
	}
	if min(good, bad) < count/10 {
		x.Complain("only " + strconv.Itoa(good) + " good and " + strconv.Itoa(bad) + " bad sources")
	}
}

// Behind tries each beginning of a source whose tokens have blanks between them, alone and with each of the tokens behind it,
// also with one more behind that.
func (x Trial) Behind(source string) {
	words := strings.Fields(source)
	for i := range len(words) + 1 {
		before := strings.Join(words[:i], " ") + " "
		x.try(before)
		for _, token := range x.Tokens {
			x.try(before + token)
			x.try(before + token + " ;")
			x.try(before + token + " x")
		}
	}
}

// Pieces tries sources that are put together of some pieces, which need not be tokens.
func (x Trial) Pieces(pieces []string, count int, choose func(n int) int) {
	const most = 14
	for range count {
		var source strings.Builder
		for range choose(most) {
			source.WriteString(pieces[choose(len(pieces))])
		}
		x.try(source.String())
	}
}

// try reports whether a source is one of the grammar, and complains if the reader contradicts that. (What the grammar has can be
// too large for the reader.)
func (x Trial) try(source string) bool {
	tokens, wantAt, want := lexis.Tokens(source)
	if want == api.OK {
		if wrong := x.Grammar.Wrong(x.Start, tokens); wrong >= 0 {
			wantAt, want = tokens[wrong].At, api.ErrSyntax
		}
	}
	at, err := x.Read(source)
	if at != wantAt || err != want && (want != api.OK || err != api.ErrFull) {
		x.Complain(strconv.Quote(source) + ": " + strconv.Itoa(at) + ", " + strconv.Itoa(int(err)) +
			"; want " + strconv.Itoa(wantAt) + ", " + strconv.Itoa(int(want)))
	}
	return want == api.OK
}
