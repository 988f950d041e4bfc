package diagram

import (
	"strconv"
	"strings"

	"winch/api"
	"winch/print"
	"winch/writing"
)

// text returns the text of a well formed diagram.
func text(l []api.Node) string {
	words := words()
	var all strings.Builder
	for _, n := range l {
		all.WriteString(nodeText(n, words) + ";\n")
	}
	return all.String()
}

func nodeText(n api.Node, words map[int]string) string {
	if n.Op == api.DOut {
		return n.Name + " := " + pinText(n.Pins[0])
	}
	head := strconv.Itoa(n.Number) + ": "
	if n.Op == api.DOp {
		return head + words[n.E] + "(" + writing.Joined(n.Pins, ", ", pinText) + ")"
	}
	return head + n.Name + "(" + writing.Joined(n.Pins, ", ", inputText) + ")." + n.Out
}

func inputText(p api.Pin) string {
	return p.Name + " := " + pinText(p)
}

// pinText returns the text of a pin without its name.
func pinText(p api.Pin) string {
	text := takenBy(p).text()
	if p.Neg {
		return "/" + text
	}
	return text
}

func (x result) text() string {
	return ":" + strconv.Itoa(x.from)
}

func (x value) text() string {
	text, _ := print.Expr(x.e)
	return text
}
