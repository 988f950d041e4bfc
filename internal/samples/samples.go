// Package samples is for tests: it makes the sources of random projects that are sound, with all languages, kinds and blocks.
package samples

import (
	"strconv"
	"strings"

	"winch/api"
	"winch/check"
	"winch/project"
	"winch/types"
)

// Maker makes projects: Choose returns a number from 0 to n - 1, Size is about how many statements, lines, rungs, nodes or steps a
// body has, Depth how deep they are nested, and Languages are the words of the bodies' languages.
type Maker struct {
	Choose    func(n int) int
	Size      int
	Depth     int
	Languages string
}

// New returns a maker of small projects of all languages.
func New(choose func(n int) int) *Maker {
	return &Maker{Choose: choose, Size: 6, Depth: 3, Languages: "st il ld fbd sfc"}
}

// Project returns a random sound project, and its source.
func (m *Maker) Project() (api.Project, string) {
	for {
		source := m.source()
		p, _, err := project.Read(source)
		if err != api.OK {
			continue
		}
		if _, err = check.Check(p); err == api.OK {
			return p, source
		}
	}
}

// Cells returns random cells of a unit of a sound project, most of them small.
func (m *Maker) Cells(p api.Project, unit int) []int {
	layout, _ := types.Layout(p, unit)
	var l []int
	for _, c := range layout {
		l = append(l, m.Value(c.Kind))
	}
	return l
}

// Value returns a random value of a kind.
func (m *Maker) Value(kind int) int {
	switch {
	case kind == api.KBool:
		return m.Choose(2)
	case m.Choose(12) == 0:
		return []int{-1 << 31, -1<<31 + 1, 1<<31 - 1, 1<<31 - 2, 65536, -65536}[m.Choose(6)]
	case kind == api.KTime:
		return m.Choose(30)
	}
	return m.Choose(12) - 4
}

// one returns one of the words of a text.
func (m *Maker) one(words string) string {
	l := strings.Fields(words)
	return l[m.Choose(len(l))]
}

// isOnce reports whether something that happens once in n times happens.
func (m *Maker) isOnce(n int) bool { return m.Choose(n) == 0 }

// source returns the source of a project that is most often sound.
func (m *Maker) source() string {
	blocks := standard()
	var functions []unit
	var texts []string
	for i := range m.Choose(3) {
		s := m.scope("function", "f"+strconv.Itoa(i), blocks, functions)
		texts = append(texts, s.text())
		functions = append(functions, s.unit)
	}
	for i := range m.Choose(3) {
		s := m.scope("block", "blk"+strconv.Itoa(i), blocks, functions)
		texts = append(texts, s.text())
		blocks = append(blocks, s.unit)
	}
	for i := range 1 + m.Choose(2) {
		texts = append(texts, m.scope("program", "p"+strconv.Itoa(i), blocks, functions).text())
	}
	var all []string
	for len(texts) > 0 {
		at := m.Choose(len(texts))
		all = append(all, texts[at])
		texts = append(texts[:at], texts[at+1:]...)
	}
	return strings.Join(all, " ")
}

// unit is what others see of a unit: result is the kind of a function's.
type unit struct {
	name      string
	result    string
	variables []variable
}

// inputs returns the inputs of one cell.
func (u unit) inputs() []variable {
	var l []variable
	for _, v := range u.variables {
		if v.class == "input" && v.isCell() {
			l = append(l, v)
		}
	}
	return l
}

// variable has the word of its kind, or the name of its block; n is the number of elements of an array.
type variable struct {
	name, class, kind string
	n                 int
	block             *unit
}

func (v variable) isCell() bool { return v.n == 0 && v.block == nil }

// standard returns the standard blocks.
func standard() []unit {
	var l []unit
	for _, name := range strings.Fields("ton tof tp ctu ctd sr rs rtrig ftrig") {
		u := unit{name: name}
		variables, _ := types.Standard(name)
		for _, v := range variables {
			class := []string{"", "input", "output", "local"}[v.Class]
			kind := []string{"", "bool", "int", "time"}[v.Type.Kind]
			u.variables = append(u.variables, variable{name: v.Name, class: class, kind: kind})
		}
		l = append(l, u)
	}
	return l
}

// scope is a unit that is being made.
type scope struct {
	*Maker
	unit
	head      string
	functions []unit
	loops     int
	inAction  bool
	labels    int
}

// scope returns a unit with variables, whose body can call some blocks and functions.
func (m *Maker) scope(head, name string, blocks, functions []unit) *scope {
	s := &scope{Maker: m, unit: unit{name: name}, head: head, functions: functions}
	if head == "function" {
		s.result = m.kind()
	}
	for i := range 3 + m.Choose(7) {
		s.variables = append(s.variables, s.variable(string(rune('a'+i)), blocks))
	}
	return s
}

func (m *Maker) kind() string { return m.one("bool bool int int time") }

func (s *scope) variable(name string, blocks []unit) variable {
	v := variable{name: name, kind: s.kind(), class: s.one("input input local")}
	if s.head == "function" {
		return v
	}
	v.class = s.one("input input input output output output retain local local local")
	switch x := s.Choose(10); {
	case x < 3 && v.class != "input" || x == 0 && s.isOnce(5):
		// The last ones are units, if there are any.
		last := len(blocks) - 1
		v.block = &blocks[last-min(s.Choose(len(blocks)), s.Choose(len(blocks)))]
		v.kind = v.block.name
	case x > 7:
		v.n = 1 + s.Choose(3)
	}
	return v
}

// text returns the text of the unit.
func (s *scope) text() string {
	var all strings.Builder
	all.WriteString(s.head + " " + s.name)
	if s.head == "function" {
		all.WriteString(": " + s.result)
	}
	for _, v := range s.variables {
		all.WriteString(" " + v.class + " " + v.name + " " + v.kind)
		if v.n > 0 {
			all.WriteString("[" + strconv.Itoa(v.n) + "]")
		}
		if v.block == nil && s.isOnce(3) {
			all.WriteString(" := " + s.initial(v.kind))
		}
		all.WriteString(";")
	}
	return all.String() + " " + s.body() + " end"
}

// initial returns a value as a variable can have it at first.
func (s *scope) initial(kind string) string {
	if kind == "int" && s.isOnce(3) {
		return "-" + s.one("1 2 3 4 5 2147483647")
	}
	return s.constant(kind)
}

func (s *scope) body() string {
	language := s.one(s.Languages)
	if s.head == "function" && language == "sfc" {
		language = "st"
	}
	switch language {
	case "il":
		return "il " + s.list()
	case "ld":
		return "ld " + s.ladder()
	case "fbd":
		return "fbd " + s.diagram()
	case "sfc":
		return "sfc " + s.chart()
	}
	return "st " + s.statements(s.Size, s.Depth)
}
