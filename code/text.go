package code

import (
	"strconv"
	"strings"

	"winch/api"
)

// text returns the text of a code, whose instructions are all in the table.
func text(c api.Code) string {
	known := instructions()
	var all strings.Builder
	line := func(head string, numbers ...int) {
		all.WriteString(head)
		for _, n := range numbers {
			all.WriteString(" " + strconv.Itoa(n))
		}
		all.WriteString("\n")
	}
	for _, u := range c.Units {
		line("unit "+u.Name, u.Kind, u.Cells, u.Args)
		for _, x := range u.Code {
			line("  "+known[x.Op].name, x.A, x.B)
		}
	}
	return all.String()
}

// failure is what a reader panics with.
type failure struct{}

func failIf(is bool) {
	if is {
		panic(failure{})
	}
}

// lines reads the lines of a text: number is that of the last one, counted from 1.
type lines struct {
	ops    map[string]int
	number int
	code   api.Code
}

// read returns the code with a text, whether it is valid or not; otherwise the number of the first line that is wrong.
func read(text string) (c api.Code, wrong int) {
	l := &lines{ops: map[string]int{}}
	for op, i := range instructions() {
		l.ops[i.name] = op
	}
	defer func() {
		if recover() != nil {
			c, wrong = api.Code{}, l.number
		}
	}()
	for text != "" {
		l.number++
		line, rest, isEnded := strings.Cut(text, "\n")
		failIf(!isEnded)
		l.line(line)
		text = rest
	}
	return l.code, 0
}

// line reads the head of a unit, or an instruction of the last unit that there is.
func (l *lines) line(line string) {
	if words, is := strings.CutPrefix(line, "unit "); is {
		name, n := split(words, 3)
		failIf(name == "")
		l.code.Units = append(l.code.Units, api.UnitCode{Name: name, Kind: n[0], Cells: n[1], Args: n[2]})
		return
	}
	words, is := strings.CutPrefix(line, "  ")
	last := len(l.code.Units) - 1
	failIf(!is || last < 0)
	name, n := split(words, 2)
	op, known := l.ops[name]
	failIf(!known)
	u := &l.code.Units[last]
	u.Code = append(u.Code, api.Instr{Op: op, A: n[0], B: n[1]})
}

// split returns a word and the numbers behind it, of which there must be so many.
func split(words string, count int) (string, []int) {
	l := strings.Split(words, " ")
	failIf(len(l) != 1+count)
	var numbers []int
	for _, word := range l[1:] {
		n, err := strconv.Atoi(word)
		// There is one text of each number.
		failIf(err != nil || strconv.Itoa(n) != word)
		numbers = append(numbers, n)
	}
	return l[0], numbers
}
