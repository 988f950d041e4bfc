// Package lexis is layer 1: it cuts a source into tokens (see shared/doc/01-lexis.md).
package lexis

import (
	"strings"

	"winch/api"
)

// Tokens returns the tokens of a source from left to right, a TEnd after them; with an error its position.
func Tokens(source string) ([]api.Token, int, api.Errno) {
	if len(source) > api.MaxSource {
		return nil, 0, api.ErrFull
	}
	var tokens []api.Token
	s := newScanner(source)
	for t := range s.tokens {
		tokens = append(tokens, t)
	}
	if s.at < len(source) {
		return nil, s.at, api.ErrSyntax
	}
	return tokens, 0, api.OK
}

// Join returns the texts of tokens with one blank between each two.
func Join(tokens []api.Token) (string, api.Errno) {
	var text strings.Builder
	for i, t := range tokens {
		if i == len(tokens)-1 && isEnd(t) {
			break
		}
		if !isToken(t) {
			return "", api.ErrArg
		}
		if i > 0 {
			text.WriteByte(' ')
		}
		text.WriteString(t.Text)
		if text.Len() > api.MaxSource {
			return "", api.ErrArg
		}
	}
	return text.String(), api.OK
}

// Place returns the line and the column of a position in a source, both counted from 1.
func Place(source string, at int) (int, int, api.Errno) {
	if len(source) > api.MaxSource || at < 0 || at > len(source) {
		return 0, 0, api.ErrArg
	}
	before := source[:at]
	line := 1 + strings.Count(before, "\n")
	// Without a line feed the index is -1, which makes the column 1 at the beginning.
	column := at - strings.LastIndexByte(before, '\n')
	return line, column, api.OK
}

// isEnd reports whether t is the token that ends a source.
func isEnd(t api.Token) bool {
	return t.Kind == api.TEnd && t.Text == ""
}

// isToken reports whether t is a token of some source, other than a TEnd; where it stands does not matter.
func isToken(t api.Token) bool {
	if t.Text == "" {
		return false
	}
	kind, length := newScanner(t.Text).token()
	return kind == t.Kind && length == len(t.Text)
}
