package lexis

import (
	"strings"

	"winch/api"
)

// scanner goes through a source; at is the position that it has reached.
type scanner struct {
	source string
	at     int
	signs  map[string]bool
}

func newScanner(source string) *scanner {
	return &scanner{source: source, signs: signs()}
}

func signs() map[string]bool {
	return map[string]bool{
		"(": true, ")": true, "[": true, "]": true, ",": true, ";": true, ":": true, ".": true,
		":=": true, "=": true, "<>": true, "<": true, "<=": true, ">": true, ">=": true,
		"+": true, "-": true, "*": true, "/": true, "&": true, "|": true, "->": true,
	}
}

// tokens visits the tokens of the source, a TEnd after them. It ends earlier, at the place in question, where no token begins.
func (s *scanner) tokens(yield func(api.Token) bool) {
	for s.skip(); s.at < len(s.source); s.skip() {
		kind, length := s.token()
		if length == 0 {
			return
		}
		t := api.Token{Kind: kind, Text: s.rest()[:length], At: s.at}
		if !yield(t) {
			return
		}
		s.at += length
	}
	yield(api.Token{Kind: api.TEnd, At: s.at})
}

// rest returns what has not been read yet.
func (s *scanner) rest() string {
	return s.source[s.at:]
}

// skip goes to the next byte that belongs to no blanks and no comment.
func (s *scanner) skip() {
	for s.at < len(s.source) {
		rest := s.rest()
		switch {
		case isBlank(rest[0]):
			s.at++
		case strings.HasPrefix(rest, "//"):
			s.at += span(rest, func(c byte) bool { return c != '\n' })
		default:
			return
		}
	}
}

// token returns the kind and the length of the token that begins here, zeros if there is none. The source must not be at its end.
func (s *scanner) token() (int, int) {
	read := s.reader()
	return read()
}

// reader returns what reads the token that begins here. The first bytes alone decide, so that nothing else is tried where it fails.
func (s *scanner) reader() func() (int, int) {
	rest := s.rest()
	switch {
	case strings.HasPrefix(rest, "t#"):
		return s.time
	case isLetter(rest[0]):
		return s.run
	case isDigit(rest[0]):
		return s.numeral
	case rest[0] == '%':
		return s.address
	}
	return s.sign
}

func (s *scanner) time() (int, int) {
	rest := s.rest()
	length := 2 + span(rest[2:], isDigit)
	if !isNumeral(rest[2:length], maxNumeral) {
		return 0, 0
	}
	return api.TTime, length
}

func (s *scanner) run() (int, int) {
	rest := s.rest()
	length := span(rest, isRunByte)
	switch run := rest[:length]; {
	case IsWord(run):
		return api.TWord, length
	case IsName(run):
		return api.TName, length
	}
	return 0, 0
}

func (s *scanner) numeral() (int, int) {
	rest := s.rest()
	length := span(rest, isDigit)
	if !isNumeral(rest[:length], maxNumeral) {
		return 0, 0
	}
	return api.TInt, length
}

func (s *scanner) address() (int, int) {
	rest := s.rest()
	length := 1 + span(rest[1:], isAddressByte)
	if !IsAddress(rest[:length]) {
		return 0, 0
	}
	return api.TAt, length
}

func (s *scanner) sign() (int, int) {
	rest := s.rest()
	for length := min(2, len(rest)); length > 0; length-- {
		if s.signs[rest[:length]] {
			return api.TSign, length
		}
	}
	return 0, 0
}
