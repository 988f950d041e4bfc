// Package ebnf recognizes and derives sources by grammars that are written as the chapters of the document write them. It is
// there for tests, as a second opinion on what the readers of the layers say.
package ebnf

import (
	"slices"
	"strings"

	"winch/api"
)

// Kinds of nodes.
const (
	literal  = 1 // a word or a sign
	symbol   = 2 // a rule of the grammar, or a class of tokens
	sequence = 3
	choice   = 4
	optional = 5
	repeated = 6
)

// node is a part of a grammar.
type node struct {
	kind  int
	text  string
	parts []node
}

// Grammar is a grammar; a symbol without a rule is a class of tokens: N names, I numerals, J numerals but 0, T times, A addresses.
type Grammar struct {
	rules map[string]node
}

// Parse returns the grammar of a text, in which all symbols have blanks between them, with rules in the form: symbol = parts.
func Parse(text string) Grammar {
	g := Grammar{map[string]node{}}
	p := &parser{words: strings.Fields(text)}
	for len(p.words) > 0 {
		name := p.take()
		p.take()
		g.rules[name] = p.choice()
	}
	return g
}

// parser reads the words that are left of a grammar.
type parser struct {
	words []string
}

func (p *parser) take() string {
	word := p.words[0]
	p.words = p.words[1:]
	return word
}

// choice reads alternatives up to a bracket that ends them, or to the next rule.
func (p *parser) choice() node {
	all := node{kind: choice}
	for {
		all.parts = append(all.parts, p.sequence())
		if len(p.words) == 0 || p.words[0] != "|" {
			return all
		}
		p.take()
	}
}

func (p *parser) sequence() node {
	all := node{kind: sequence}
	for !p.isDone() {
		all.parts = append(all.parts, p.part())
	}
	return all
}

func (p *parser) isDone() bool {
	if len(p.words) == 0 || len(p.words) > 1 && p.words[1] == "=" {
		return true
	}
	return strings.Contains(" | ) ] } ", " "+p.words[0]+" ")
}

func (p *parser) part() node {
	word := p.take()
	kind := 0
	switch word {
	case "(":
		kind = sequence
	case "[":
		kind = optional
	case "{":
		kind = repeated
	default:
		if text, quoted := strings.CutPrefix(word, `"`); quoted {
			return node{kind: literal, text: strings.TrimSuffix(text, `"`)}
		}
		return node{kind: symbol, text: word}
	}
	inner := p.choice()
	p.take()
	return node{kind: kind, parts: []node{inner}}
}

// state is a symbol at a position.
type state struct {
	symbol string
	at     int
}

// recognizer goes all ways through tokens, so that far is the first position that none of them has gone beyond.
type recognizer struct {
	Grammar
	tokens []api.Token
	far    int
	known  map[state][]int
}

// Wrong returns the position of the first of tokens, the last of which is a TEnd, that no source of a symbol that begins with
// those before it can have there; -1 if they are such a source.
func (g Grammar) Wrong(start string, tokens []api.Token) int {
	r := &recognizer{Grammar: g, tokens: tokens, known: map[state][]int{}}
	if slices.Contains(r.symbol(start, 0), len(tokens)-1) {
		return -1
	}
	return r.far
}

// ends returns the positions at which a node that begins at one can end, ascending.
func (r *recognizer) ends(n node, at int) []int {
	r.far = max(r.far, at)
	switch n.kind {
	case literal:
		return r.token(at, r.tokens[at].Text == n.text && r.tokens[at].Kind != api.TEnd)
	case symbol:
		return r.symbol(n.text, at)
	case sequence:
		l := []int{at}
		for _, part := range n.parts {
			l = r.each(part, l)
		}
		return l
	case choice:
		var l []int
		for _, part := range n.parts {
			l = append(l, r.ends(part, at)...)
		}
		return ordered(l)
	case optional:
		return ordered(append(r.ends(n.parts[0], at), at))
	}
	return r.repeated(n.parts[0], at)
}

// token returns the position after a token that fits.
func (r *recognizer) token(at int, fits bool) []int {
	if !fits {
		return nil
	}
	r.far = max(r.far, at+1)
	return []int{at + 1}
}

// each returns where a node can end that begins at one of some positions.
func (r *recognizer) each(n node, positions []int) []int {
	var l []int
	for _, at := range positions {
		l = append(l, r.ends(n, at)...)
	}
	return ordered(l)
}

func (r *recognizer) repeated(n node, at int) []int {
	l := []int{at}
	for i := 0; i < len(l); i++ {
		for _, end := range r.ends(n, l[i]) {
			if !slices.Contains(l, end) {
				l = append(l, end)
			}
		}
	}
	return ordered(l)
}

func (r *recognizer) symbol(name string, at int) []int {
	n, is := r.rules[name]
	if !is {
		return r.token(at, isOf(name, r.tokens[at]))
	}
	s := state{name, at}
	l, done := r.known[s]
	if !done {
		l = r.ends(n, at)
		r.known[s] = l
	}
	return slices.Clone(l)
}

// ordered returns numbers ascending, each once.
func ordered(l []int) []int {
	slices.Sort(l)
	return slices.Compact(l)
}

// isOf reports whether a token is of a class.
func isOf(class string, t api.Token) bool {
	switch class {
	case "N":
		return t.Kind == api.TName
	case "I":
		return t.Kind == api.TInt
	case "J":
		return t.Kind == api.TInt && t.Text != "0"
	case "T":
		return t.Kind == api.TTime
	case "A":
		return t.Kind == api.TAt
	}
	return false
}

// Derive returns the texts of the tokens of some source of a symbol. choose chooses one of n ways, a number from 0 to n - 1;
// rules that are nested more than depth deep are as short as they can be.
func (g Grammar) Derive(start string, depth int, choose func(n int) int) []string {
	d := &deriver{g, choose, nil}
	d.node(node{kind: symbol, text: start}, depth)
	return d.words
}

type deriver struct {
	Grammar
	choose func(n int) int
	words  []string
}

func (d *deriver) node(n node, depth int) {
	switch n.kind {
	case literal:
		d.words = append(d.words, n.text)
	case symbol:
		d.symbol(n.text, depth)
	case sequence:
		for _, part := range n.parts {
			d.node(part, depth)
		}
	case choice:
		d.node(d.chosen(n.parts, depth), depth)
	case optional:
		if depth > 0 && d.choose(2) == 0 {
			d.node(n.parts[0], depth)
		}
	case repeated:
		// Rarely, as expressions have many repetitions in each other.
		for depth > 0 && d.choose(5) == 0 {
			d.node(n.parts[0], depth)
		}
	}
}

// chosen returns one of some alternatives.
func (d *deriver) chosen(l []node, depth int) node {
	if depth > 0 {
		return l[d.choose(len(l))]
	}
	shortest := l[0]
	for _, n := range l {
		if d.length(n, 0) < d.length(shortest, 0) {
			shortest = n
		}
	}
	return shortest
}

// length returns the number of tokens of the shortest source of a node, at most tooLong.
func (d *deriver) length(n node, depth int) int {
	const deepest, tooLong = 12, 1000
	switch {
	case depth > deepest:
		return tooLong
	case n.kind == optional || n.kind == repeated:
		return 0
	case n.kind == symbol && len(d.rules[n.text].parts) > 0:
		return d.length(d.rules[n.text], depth+1)
	case n.kind == sequence:
		sum := 0
		for _, part := range n.parts {
			sum += d.length(part, depth)
		}
		return min(sum, tooLong)
	case n.kind == choice:
		least := tooLong
		for _, part := range n.parts {
			least = min(least, d.length(part, depth))
		}
		return least
	}
	return 1
}

func (d *deriver) symbol(name string, depth int) {
	n, is := d.rules[name]
	if is {
		d.node(n, depth-1)
		return
	}
	words := map[string][]string{"N": {"x", "y", "t1"}, "I": {"0", "1", "5"}, "J": {"2", "7"}, "T": {"t#0", "t#5"}, "A": {"%i1", "%q0"}}[name]
	d.words = append(d.words, words[d.choose(len(words))])
}

// Spoil returns a copy of words of which up to two have been replaced by others, removed, or preceded by others, or after which
// all have been removed.
func Spoil(words, others []string, choose func(n int) int) []string {
	words = slices.Clone(words)
	for range choose(3) {
		if len(words) == 0 {
			return words
		}
		at, other := choose(len(words)), others[choose(len(others))]
		switch choose(4) {
		case 0:
			words[at] = other
		case 1:
			words = slices.Delete(words, at, at+1)
		case 2:
			words = slices.Insert(words, at, other)
		case 3:
			words = words[:at]
		}
	}
	return words
}
