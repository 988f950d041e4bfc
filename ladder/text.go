package ladder

import (
	"strings"

	"winch/api"
	"winch/print"
	"winch/writing"
)

// text returns the text of a well formed ladder.
func text(l []api.Rung) string {
	var all strings.Builder
	for _, x := range l {
		all.WriteString("rung")
		if x.Label != "" {
			all.WriteString(" " + x.Label)
		}
		all.WriteString(": " + elementOf(x.Power).text() + " -> " + writing.Joined(x.Coils, ", ", coilText) + ";\n")
	}
	return all.String()
}

func coilText(c api.Coil) string {
	return markText(c.Mark) + c.Name
}

// markText returns what stands before the name of a contact or coil.
func markText(mark int) string {
	switch mark {
	case api.MNot:
		return "/"
	case api.MRise:
		return "+"
	case api.MFall:
		return "-"
	case api.MSet:
		return "set "
	case api.MReset:
		return "reset "
	case api.MJump:
		return "jump "
	case api.MReturn:
		return "return"
	}
	return ""
}

func (e wire) text() string {
	return "true"
}

func (e contact) text() string {
	return markText(e.mark) + e.name
}

func (e comparison) text() string {
	return "[" + expression(e.arg[0]) + "]"
}

func (e series) text() string {
	return writing.Joined(e.parts, " & ", func(p api.Power) string {
		return partText(p, p.Op == api.PSeries || p.Op == api.PParallel)
	})
}

func (e parallel) text() string {
	return writing.Joined(e.parts, " | ", func(p api.Power) string {
		return partText(p, p.Op == api.PParallel)
	})
}

func partText(p api.Power, inParentheses bool) string {
	text := elementOf(p).text()
	if inParentheses {
		return "(" + text + ")"
	}
	return text
}

func (e box) text() string {
	inputs := e.fields[0]
	if len(e.args) > 0 {
		inputs += ", " + writing.Inputs(e.fields[1:], e.args, expression)
	}
	return "box " + e.name + "(" + inputs + ")." + e.out
}

// expression returns the text of an expression, which is well formed, as the ladder is.
func expression(e api.Expr) string {
	text, _ := print.Expr(e)
	return text
}
