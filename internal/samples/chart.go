package samples

import (
	"strconv"
	"strings"
)

func (s *scope) chart() string {
	count := 1 + s.Choose(s.Size)
	names := make([]string, count)
	macro := -1
	if s.isOnce(3) {
		macro = s.Choose(count)
	}
	var all []string
	for i := range names {
		names[i] = "s" + strconv.Itoa(i)
		text := "step " + names[i]
		if i == 0 || s.isOnce(6) {
			text = "initial " + text
		}
		if i == macro {
			text += " macro m"
		} else {
			text += s.actions()
		}
		all = append(all, text+";")
	}
	for range s.Choose(s.Size + 1) {
		all = append(all, s.transition(names))
	}
	if macro >= 0 {
		inner := []string{"u", "v"}
		all = append(all, "macro m(u, "+s.one("u v")+") step u"+s.actions()+"; step v"+s.actions()+"; "+s.transition(inner)+" end;")
	}
	return strings.Join(all, " ")
}

func (s *scope) transition(names []string) string {
	some := func() string {
		at := s.Choose(len(names))
		if len(names) > 1 && s.isOnce(4) {
			return names[at] + ", " + names[(at+1)%len(names)]
		}
		return names[at]
	}
	return "from " + some() + " to " + some() + " when " + s.expression("bool", 2) + ";"
}

func (s *scope) actions() string {
	text := ""
	for range s.Choose(3) {
		q := s.one("while while set reset enter leave limit delay")
		named := s.targets("bool")
		if q == "limit" || q == "delay" {
			q = strings.Replace(q, "limit", "limit_", 1) + " " + s.one("t#0 t#1 t#3 t#10 t#20")
		}
		switch {
		case len(named) > 0 && (q == "set" || q == "reset" || s.isOnce(2)):
			text += " do " + q + " " + named[s.Choose(len(named))]
		case q != "set" && q != "reset":
			s.inAction = true
			text += " do " + q + " (" + s.statements(2, 1) + ")"
			s.inAction = false
		}
	}
	return text
}
