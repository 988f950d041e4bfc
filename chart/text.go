package chart

import (
	"strings"

	"winch/api"
	"winch/print"
)

// text returns the text of a well formed chart, or of the chart of a macro, each part of it on a line.
func text(c api.Chart) string {
	words := words()
	var all strings.Builder
	for _, s := range c.Steps {
		all.WriteString(stepText(s, words) + ";\n")
	}
	for _, t := range c.Trans {
		all.WriteString(transText(t) + ";\n")
	}
	for _, m := range c.Inner {
		all.WriteString(macroText(m) + ";\n")
	}
	return all.String()
}

func stepText(s api.Step, words map[int]string) string {
	text := "step " + s.Name
	if s.Initial {
		text = "initial " + text
	}
	if s.Macro != "" {
		text += " macro " + s.Macro
	}
	for _, a := range s.Actions {
		text += " do " + words[a.Q] + timeText(a) + " " + variableOrTextOf(a)
	}
	return text
}

// timeText returns the time of an action with the blank before it, if it has one.
func timeText(a api.Action) string {
	if !isTimed(a.Q) {
		return ""
	}
	text, _ := print.Const(api.KTime, a.Time)
	return " " + text
}

func variableOrTextOf(a api.Action) string {
	if a.Name != "" {
		return a.Name
	}
	text, _ := print.Short(a.Body)
	return "(" + text + ")"
}

func transText(t api.Trans) string {
	when, _ := print.Expr(t.When)
	return "from " + namesText(t.From) + " to " + namesText(t.To) + " when " + when
}

func namesText(l []string) string {
	return strings.Join(l, ", ")
}

func macroText(m api.Chart) string {
	return "macro " + m.Name + " (" + namesText([]string{m.In, m.Out}) + ") " + strings.ReplaceAll(text(m), "\n", " ") + "end"
}
