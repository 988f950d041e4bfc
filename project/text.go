package project

import (
	"strconv"
	"strings"

	"winch/api"
	"winch/chart"
	"winch/diagram"
	"winch/ladder"
	"winch/list"
	"winch/print"
	"winch/writing"
)

// indent is what the lines of variables and of a body begin with.
const indent = "  "

// text returns the text of a well formed project.
func text(p api.Project) string {
	var all strings.Builder
	for _, u := range p.Units {
		all.WriteString(headText(u) + "\n")
		for group := range groups(u.Vars) {
			all.WriteString(indent + classWord(group[0].Class) + " " + writing.Joined(group, " ", variableText) + "\n")
		}
		all.WriteString(languageWord(u.Body.Lang) + "\n")
		for line := range strings.Lines(bodyText(u.Body)) {
			all.WriteString(indent + line)
		}
		all.WriteString("end\n")
	}
	for _, t := range p.Tasks {
		all.WriteString(taskText(t) + "\n")
	}
	return all.String()
}

// headText returns the first line of a unit.
func headText(u api.Unit) string {
	switch u.Kind {
	case api.UProgram:
		return "program " + u.Name
	case api.UBlock:
		return "block " + u.Name
	}
	return "function " + u.Name + " : " + kindWord(u.Result)
}

func kindWord(kind int) string {
	switch kind {
	case api.KBool:
		return "bool"
	case api.KInt:
		return "int"
	}
	return "time"
}

func classWord(class int) string {
	switch class {
	case api.VInput:
		return "input"
	case api.VOutput:
		return "output"
	case api.VLocal:
		return "local"
	}
	return "retain"
}

func variableText(v api.Var) string {
	text := v.Name + " " + typeText(v.Type)
	if len(v.Init) > 0 {
		text += " := " + writing.Joined(v.Init, ", ", func(n int) string { return valueText(v.Type.Kind, n) })
	}
	if v.At != "" {
		text += " at " + v.At
	}
	return text + ";"
}

func typeText(t api.Type) string {
	switch {
	case t.Kind == api.KBlock:
		return t.Block
	case t.N == 0:
		return kindWord(t.Kind)
	}
	return kindWord(t.Kind) + "[" + strconv.Itoa(t.N) + "]"
}

func valueText(kind, n int) string {
	text, _ := print.Const(kind, n)
	return text
}

func languageWord(lang int) string {
	switch lang {
	case api.InText:
		return "st"
	case api.InList:
		return "il"
	case api.InLadder:
		return "ld"
	case api.InDiagram:
		return "fbd"
	}
	return "sfc"
}

// bodyText returns the text of a well formed body, as its layer has it.
func bodyText(b api.Body) string {
	switch b.Lang {
	case api.InText:
		return written(b.Text, print.Text)
	case api.InList:
		return written(b.List, list.Text)
	case api.InLadder:
		return written(b.Rungs, ladder.Text)
	case api.InDiagram:
		return written(b.Nodes, diagram.Text)
	}
	return written(b.Chart, chart.Text)
}

// written returns what the layer of a language writes.
func written[T any](body T, write func(T) (string, api.Errno)) string {
	text, _ := write(body)
	return text
}

func taskText(t api.Task) string {
	text := "task " + t.Name + " every " + valueText(api.KTime, t.Every)
	if t.Phase != 0 {
		text += " phase " + valueText(api.KTime, t.Phase)
	}
	return text + " priority " + strconv.Itoa(t.Priority) + " run " + strings.Join(t.Programs, ", ") + ";"
}
