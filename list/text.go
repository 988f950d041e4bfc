package list

import (
	"strings"

	"winch/api"
	"winch/print"
	"winch/writing"
)

// text returns the text of a well formed list.
func text(l []api.Line) string {
	words := words()
	var all strings.Builder
	for _, x := range l {
		if x.Label != "" {
			all.WriteString(x.Label + ": ")
		}
		all.WriteString(words[headOf(x)] + restText(x) + ";\n")
	}
	return all.String()
}

// restText returns what follows the word of a line.
func restText(x api.Line) string {
	switch {
	case x.Open:
		return "("
	case x.Op == api.LCall && len(x.Fields) > 0:
		return " " + x.Name + "(" + writing.Inputs(x.Fields, x.Arg, expression) + ")"
	case x.Name != "":
		return " " + x.Name
	case len(x.Arg) > 0:
		return " " + expression(x.Arg[0])
	}
	return ""
}

// expression returns the text of an expression, which is well formed, as the list is.
func expression(e api.Expr) string {
	text, _ := print.Expr(e)
	return text
}
