package project_test

import (
	"fmt"
	"math"
	"math/rand"
	"reflect"
	"slices"
	"strings"
	"testing"

	"winch/api"
	"winch/chart"
	"winch/diagram"
	"winch/ladder"
	"winch/list"
	"winch/print"
	"winch/project"
)

// write writes a project in its own way, whatever it is; what there is no word for has the word "?".
func write(p api.Project) string {
	var all strings.Builder
	for _, t := range p.Tasks {
		all.WriteString(fmt.Sprint("task ", t.Name, " every t#", t.Every, " phase t#", t.Phase, " priority ", t.Priority, " run ", strings.Join(t.Programs, ","), ";"))
	}
	for _, u := range p.Units {
		all.WriteString(wordOf("program block function", u.Kind) + " " + u.Name)
		if u.Kind == api.UFunction {
			all.WriteString(":" + wordOf("bool int time", u.Result))
		}
		for _, v := range u.Vars {
			all.WriteString(" " + wordOf("input output local retain", v.Class) + " " + writeVariable(v))
		}
		all.WriteString(" " + wordOf("st il ld fbd sfc", u.Body.Lang) + " " + writeBody(u.Body) + " end ")
	}
	return all.String()
}

// wordOf returns the word that stands for a number.
func wordOf(words string, n int) string {
	l := strings.Fields(words)
	if n < 1 || n > len(l) {
		return "?"
	}
	return l[n-1]
}

func writeVariable(v api.Var) string {
	text := v.Name + " "
	if v.Type.Kind == api.KBlock {
		text += v.Type.Block
	} else {
		text += wordOf("bool int time", v.Type.Kind)
	}
	if v.Type.N != 0 {
		text += fmt.Sprint("[", v.Type.N, "]")
	}
	for i, n := range v.Init {
		text += []string{":=", ","}[min(i, 1)] + fmt.Sprint(n)
	}
	if v.At != "" {
		text += " at " + v.At
	}
	return text + ";"
}

func writeBody(b api.Body) string {
	t1, _ := print.Text(b.Text)
	t2, _ := list.Text(b.List)
	t3, _ := ladder.Text(b.Rungs)
	t4, _ := diagram.Text(b.Nodes)
	t5, _ := chart.Text(b.Chart)
	return t1 + t2 + t3 + t4 + t5
}

// canBeWritten reports whether reading what write makes of a project gives it again.
func canBeWritten(p api.Project) bool {
	got, _, err := project.Read(write(p))
	return err == api.OK && reflect.DeepEqual(got, p)
}

// expectForm checks what is said of a project by all functions that want a well formed one.
func expectForm(t *testing.T, p api.Project, want api.Errno) {
	t.Helper()
	text, e1 := project.Text(p)
	clone, e2 := project.Clone(p)
	if e := project.Check(p); e != want || e1 != want || e2 != want {
		t.Errorf("%d units: Check %d, Text %d, Clone %d; want %d", len(p.Units), e, e1, e2, want)
	}
	if want == api.OK {
		return
	}
	at, e1 := project.Find(p, "?")
	number, e2 := project.Variable(p, 0, "?")
	renamed, e3 := project.Rename(p, 0, "a", "z")
	if text != "" || !reflect.DeepEqual(clone, api.Project{}) || at != 0 || number != 0 || !reflect.DeepEqual(renamed, api.Project{}) || e1 != want || e2 != want || e3 != want {
		t.Errorf("%d units: Text %q, Clone %v, Find %d, %d, Variable %d, %d, Rename %v, %d", len(p.Units), text, clone, at, e1, number, e2, renamed, e3)
	}
}

// TestWellFormed has sources of the grammar that are well formed or not, for each reason.
func TestWellFormed(t *testing.T) {
	unit := "block b st end "
	variables := func(n int) string { return "program p input " + strings.Repeat("a bool; ", n) + "st end" }
	task := func(what string) string {
		s := "task t every t#100 phase t#10 priority 1 run p;"
		for change := range strings.SplitSeq(what, ", ") {
			from, to, _ := strings.Cut(change, "=")
			s = strings.Replace(s, from, to, 1)
		}
		return s
	}
	local := func(what string) string { return "program p local a " + what + "; st end" }
	for _, x := range []struct {
		source string
		e      api.Errno
	}{
		{strings.Repeat(unit, 16), api.OK}, {strings.Repeat(unit, 17), api.ErrFull}, {strings.Repeat(unit, 500), api.ErrFull}, {variables(32), api.OK}, {variables(33), api.ErrFull}, {variables(900), api.ErrFull}, {variables(32) + " " + variables(32), api.OK}, {variables(32) + " " + variables(33), api.ErrFull},
		{"block b local n int[40]; st end", api.ErrFull}, {local("int[32]"), api.OK}, {local("int[33]"), api.ErrFull}, {local("int[1]"), api.OK}, {local("int[0]"), api.ErrFull}, {local("bool[0]"), api.ErrFull}, {local("time[0] at %i1"), api.ErrFull}, {local("int[0] := 5"), api.ErrFull}, {local("int[2147483647]"), api.ErrFull},
		{local("bool := 1"), api.OK}, {local("bool := 2"), api.ErrFull}, {local("bool := -1"), api.ErrFull}, {local("bool := t#2"), api.ErrFull}, {local("bool := true, true"), api.ErrFull}, {local("bool[2] := true, true"), api.OK}, {local("bool[2] := true, 2"), api.ErrFull}, {local("bool[2] := true, true, true"), api.ErrFull},
		{local("time := -1"), api.ErrFull}, {local("time := t#0"), api.OK}, {local("time[2] := t#1, -1"), api.ErrFull}, {local("int := -2147483647"), api.OK}, {local("int := 1, 2"), api.ErrFull}, {local("int[1] := 1, 2"), api.ErrFull}, {local("int[32] := 1" + strings.Repeat(", 1", 31)), api.OK}, {local("int[32] := 1" + strings.Repeat(", 1", 32)), api.ErrFull},
		{local("ton := 1"), api.ErrFull}, {local("ton := true"), api.ErrFull}, {local("ton at %q1"), api.OK}, {local("a"), api.OK}, {local("int[3] at %q1"), api.OK},
		{"program p input a bool; a bool; output a int; st end program p st end function p : int local p p; st end", api.OK},
		{task("p;=p;"), api.OK}, {task("t#100=t#1, phase t#10=phase t#0"), api.OK}, {task("t#100=t#0, phase t#10=phase t#0"), api.ErrFull}, {task("t#100=t#0, phase t#10 ="), api.ErrFull}, {task("t#100=t#1, phase t#10=phase t#1"), api.ErrFull}, {task("t#100=t#100000"), api.OK}, {task("t#100=t#100001"), api.ErrFull},
		{task("t#100=t#2147483647"), api.ErrFull}, {task("phase t#10=phase t#99"), api.OK}, {task("phase t#10=phase t#100"), api.ErrFull}, {task("phase t#10=phase t#2147483647"), api.ErrFull}, {task("priority 1=priority 0"), api.OK}, {task("priority 1=priority 100"), api.OK}, {task("priority 1=priority 101"), api.ErrFull},
		{"task t every t#1 priority 0 run p" + strings.Repeat(", p", 15) + ";", api.OK}, {"task t every t#1 priority 0 run p" + strings.Repeat(", p", 16) + ";", api.ErrFull}, {strings.Repeat(task("p;=p;"), 8), api.OK}, {strings.Repeat(task("p;=p;"), 9), api.ErrFull},
		// Bodies are well formed in their languages.
		{"program p st " + strings.Repeat("exit;", 500) + " end", api.OK}, {"program p st " + strings.Repeat("exit;", 501) + " end", api.ErrFull}, {"program p st x := " + strings.Repeat("-", 13) + "1; end", api.ErrFull}, {"program p il jmp x; end", api.ErrFull}, {"program p il ); end", api.ErrFull}, {"program p il x: jmp x; end", api.OK},
		{"program p ld rung: a -> jump x; end", api.ErrFull}, {"program p ld rung: a -> jump x; rung x: a -> q; end", api.OK}, {"program p fbd 1: not(:1); end", api.ErrFull}, {"program p fbd q := :1; end", api.ErrFull}, {"program p fbd 0: not(a); end", api.OK}, {"program p sfc end", api.ErrFull}, {"program p sfc step a; end", api.ErrFull}, {"program p sfc initial step a; end", api.OK},
		{"program p st end program q il jmp x; end program r st end", api.ErrFull}, {"program p sfc initial step a do set (); end", api.ErrFull},
		{strings.Repeat("block b st "+strings.Repeat("exit;", 90)+"end ", 16), api.OK},
	} {
		p, at, e := project.Read(x.source)
		if e != x.e || at != 0 || e != api.OK && !reflect.DeepEqual(p, api.Project{}) {
			t.Errorf("Read(%.90q ... %.60q) = %d, %d; want %d", x.source, x.source[max(0, len(x.source)-60):], at, e, x.e)
		}
		if e == api.OK {
			expectForm(t, p, api.OK)
		}
	}
}

// wrongVariables are variables that no project has.
func wrongVariables() []api.Var {
	at := func(s string) api.Var { return api.Var{Name: "a", Class: api.VInput, Type: value(api.KInt), At: s} }
	of := func(t api.Type, l ...int) api.Var { return api.Var{Name: "a", Class: api.VInput, Type: t, Init: l} }
	return []api.Var{
		{}, {Name: "a", Class: api.VInput}, {Name: "a", Type: value(api.KInt)}, {Class: api.VInput, Type: value(api.KInt)}, {Name: "if", Class: api.VInput, Type: value(api.KInt)}, {Name: "A", Class: api.VInput, Type: value(api.KInt)}, {Name: "thirteen_byte", Class: api.VInput, Type: value(api.KInt)},
		{Name: "a", Class: 5, Type: value(api.KInt)}, {Name: "a", Class: -1, Type: value(api.KInt)}, {Name: "a", Class: math.MaxInt, Type: value(api.KInt)}, of(value(5)), of(value(-1)), of(value(math.MinInt)), of(array(api.KInt, 33)), of(array(api.KInt, -1)), of(array(api.KBool, math.MaxInt)), of(array(api.KTime, math.MinInt)), of(array(5, 3)),
		of(block("")), of(block("if")), of(block("Ton")), of(api.Type{Kind: api.KBlock, N: 1, Block: "ton"}), of(api.Type{Kind: api.KBlock, N: -1, Block: "ton"}), of(api.Type{Kind: api.KInt, Block: "ton"}), of(api.Type{Kind: api.KBool, N: 3, Block: "b"}), of(api.Type{Block: "ton"}), of(block("ton"), 0), of(block("ton"), 1),
		of(value(api.KBool), 2), of(value(api.KBool), -1), of(value(api.KBool), 0, 0), of(value(api.KInt), math.MinInt32), of(value(api.KInt), math.MaxInt32+1), of(value(api.KInt), math.MaxInt), of(value(api.KInt), math.MinInt), of(value(api.KInt), 0, 0), of(value(api.KTime), -1), of(value(api.KTime), math.MaxInt32+1), of(value(api.KTime), math.MinInt),
		of(array(api.KInt, 3), 0, 0, math.MinInt32), of(array(api.KInt, 3), 0, 0, 0, 0), of(array(api.KBool, 3), 0, 0, 2), of(value(api.KInt), slices.Repeat([]int{0}, 1<<16)...),
		at("%"), at("i1"), at("%i64"), at("%i01"), at("%x1"), at("%i1 "), at(" "), at("%I1"), at("%q-1"),
	}
}

// wrongBodies are bodies that no project has.
func wrongBodies(t *testing.T) []api.Body {
	statement, line := of(api.Stmt{Op: api.SExit}), of(api.Line{Op: api.LNot})
	rung := part(t, ladder.Read, "rung: a -> q;")
	node := part(t, diagram.Read, "q := a;")
	c := part(t, chart.Read, "initial step a;")
	loop := api.Stmt{Op: api.SRepeat, Args: of(api.Expr{Op: api.EName, S: "x"}), Body: make([]api.Stmt, 1)}
	loop.Body[0] = loop
	ring := api.Chart{Inner: make([]api.Chart, 1)}
	ring.Inner[0] = ring
	good := api.Body{Text: statement, List: line, Rungs: rung, Nodes: node, Chart: c}
	wrong := []api.Body{{}, good, {Lang: 6}, {Lang: -1}, {Lang: math.MaxInt}, {Lang: math.MinInt, Text: statement}, {Text: statement}, {Lang: api.InText, Text: of(api.Stmt{})}, {Lang: api.InList, List: of(api.Line{})}, {Lang: api.InLadder, Rungs: of(api.Rung{})}, {Lang: api.InDiagram, Nodes: of(api.Node{})},
		{Lang: api.InChart}, {Lang: api.InChart, Chart: api.Chart{Steps: of(api.Step{})}}, {Lang: api.InText, Text: of(loop)}, {Lang: api.InText, Chart: ring}, {Lang: api.InChart, Chart: ring}, {Lang: api.InText, Text: slices.Repeat(statement, 1<<16)}, {Lang: api.InText, Chart: api.Chart{Name: "a"}},
		{Lang: api.InList, List: line, Chart: api.Chart{Out: "a"}}, {Lang: api.InText, Text: statement, Rungs: make([]api.Rung, 1)}, {Lang: api.InLadder, Rungs: rung, Text: of(loop)}}
	for lang := api.InText; lang <= api.InChart; lang++ {
		for other := api.InText; other <= api.InChart; other++ {
			b := api.Body{Lang: lang}
			for _, what := range []int{lang, other} {
				switch what {
				case api.InText:
					b.Text = statement
				case api.InList:
					b.List = line
				case api.InLadder:
					b.Rungs = rung
				case api.InDiagram:
					b.Nodes = node
				case api.InChart:
					b.Chart = c
				}
			}
			if other != lang {
				wrong = append(wrong, b)
			}
		}
	}
	return wrong
}

// TestWrongProjects has projects that no source has.
func TestWrongProjects(t *testing.T) {
	body := api.Body{Lang: api.InText}
	unit := api.Unit{Kind: api.UProgram, Name: "p", Body: body}
	task := api.Task{Name: "t", Every: 1, Programs: of("p")}
	expectForm(t, api.Project{Units: of(unit), Tasks: of(task)}, api.OK)
	expectForm(t, api.Project{Units: []api.Unit{}, Tasks: []api.Task{}}, api.OK)
	var units []api.Unit
	for _, u := range []api.Unit{{}, {Kind: api.UProgram, Body: body}, {Name: "p", Body: body}, {Kind: 4, Name: "p", Body: body}, {Kind: -1, Name: "p", Body: body}, {Kind: math.MaxInt, Name: "p", Body: body}, {Kind: api.UProgram, Name: "if", Body: body}, {Kind: api.UBlock, Name: "B", Body: body},
		{Kind: api.UProgram, Name: "p", Result: api.KBool, Body: body}, {Kind: api.UBlock, Name: "p", Result: api.KInt, Body: body}, {Kind: api.UBlock, Name: "p", Result: -1, Body: body}, {Kind: api.UFunction, Name: "p", Body: body}, {Kind: api.UFunction, Name: "p", Result: api.KBlock, Body: body}, {Kind: api.UFunction, Name: "p", Result: -1, Body: body},
		{Kind: api.UFunction, Name: "p", Result: math.MaxInt, Body: body}, {Kind: api.UProgram, Name: "p"}} {
		units = append(units, u)
	}
	for _, v := range wrongVariables() {
		units = append(units, program(v).Units[0], program(api.Var{Name: "b", Class: api.VInput, Type: value(api.KInt)}, v).Units[0])
	}
	for _, b := range wrongBodies(t) {
		units = append(units, api.Unit{Kind: api.UBlock, Name: "b", Body: b})
		if text, err := project.Body(b); err != api.ErrArg || text != "" {
			t.Errorf("Body(%d) = %q, %d", b.Lang, text, err)
		}
	}
	for i, u := range units {
		t.Run(fmt.Sprint("unit ", i), func(t *testing.T) {
			expectForm(t, api.Project{Units: of(u)}, api.ErrArg)
			expectForm(t, api.Project{Units: of(unit, u), Tasks: of(task)}, api.ErrArg)
		})
	}
	for i, x := range []api.Task{{}, {Every: 1, Programs: of("p")}, {Name: "task", Every: 1, Programs: of("p")}, {Name: "t", Programs: of("p")}, {Name: "t", Every: -1, Programs: of("p")}, {Name: "t", Every: 100001, Programs: of("p")}, {Name: "t", Every: math.MinInt, Phase: math.MaxInt, Programs: of("p")}, {Name: "t", Every: math.MaxInt, Programs: of("p")},
		{Name: "t", Every: 5, Phase: 5, Programs: of("p")}, {Name: "t", Every: 5, Phase: -1, Programs: of("p")}, {Name: "t", Every: 5, Phase: math.MinInt, Programs: of("p")}, {Name: "t", Every: 5, Priority: 101, Programs: of("p")}, {Name: "t", Every: 5, Priority: -1, Programs: of("p")}, {Name: "t", Every: 5, Priority: math.MaxInt, Programs: of("p")},
		{Name: "t", Every: 5}, {Name: "t", Every: 5, Programs: of("")}, {Name: "t", Every: 5, Programs: of("p", "program")}, {Name: "t", Every: 5, Programs: slices.Repeat(of("p"), 17)}, {Name: "t", Every: 5, Programs: slices.Repeat(of("p"), 1<<16)}} {
		t.Run(fmt.Sprint("task ", i), func(t *testing.T) {
			expectForm(t, api.Project{Tasks: of(x)}, api.ErrArg)
			expectForm(t, api.Project{Units: of(unit), Tasks: of(task, x)}, api.ErrArg)
		})
	}
	for _, p := range []api.Project{{Units: slices.Repeat(of(unit), 17)}, {Units: slices.Repeat(of(unit), 1<<16)}, {Tasks: slices.Repeat(of(task), 9)}, {Tasks: slices.Repeat(of(task), 1<<16)}, program(slices.Repeat(of(api.Var{Name: "a", Class: 1, Type: value(api.KInt)}), 33)...)} {
		expectForm(t, p, api.ErrArg)
	}
}

const someSource = "program p input a bool; n int := -5 at %i3; output x int[3] := 1, 2 at %q4; local t1 ton; u time := t#7; retain k bool[2] := true; st q := not a; end block b il ld a; end function f : int input x f; ld rung: a -> q; end " +
	"program q fbd q := a; end block c sfc initial step a; macro m(a, a) step a; end; end task t every t#100 priority 1 run p; task u every t#50 phase t#10 priority 0 run q, p;"

// changes are changes of single fields of a unit with a variable, or of a task, each of which may or may not fit.
func changes(t *testing.T) map[string]func(*api.Unit, *api.Var, *api.Task) {
	return map[string]func(*api.Unit, *api.Var, *api.Task){
		"kind": func(u *api.Unit, v *api.Var, x *api.Task) { u.Kind++ }, "less kind": func(u *api.Unit, v *api.Var, x *api.Task) { u.Kind-- }, "name": func(u *api.Unit, v *api.Var, x *api.Task) { u.Name += "z" }, "no name": func(u *api.Unit, v *api.Var, x *api.Task) { u.Name = "" }, "result": func(u *api.Unit, v *api.Var, x *api.Task) { u.Result++ },
		"function": func(u *api.Unit, v *api.Var, x *api.Task) { u.Kind, u.Result = api.UFunction, api.KTime }, "variable": func(u *api.Unit, v *api.Var, x *api.Task) {
			u.Vars = append(slices.Clone(u.Vars), api.Var{Name: "z", Class: api.VRetain, Type: block("z")})
		}, "no variables": func(u *api.Unit, v *api.Var, x *api.Task) { u.Vars = nil },
		"language": func(u *api.Unit, v *api.Var, x *api.Task) { u.Body.Lang++ }, "text": func(u *api.Unit, v *api.Var, x *api.Task) {
			u.Body.Text = append(slices.Clone(u.Body.Text), api.Stmt{Op: api.SExit})
		}, "list": func(u *api.Unit, v *api.Var, x *api.Task) {
			u.Body.List = append(slices.Clone(u.Body.List), api.Line{Op: api.LNot})
		},
		"rung": func(u *api.Unit, v *api.Var, x *api.Task) {
			u.Body.Rungs = append(slices.Clone(u.Body.Rungs), part(t, ladder.Read, "rung: z -> z;")...)
		}, "node": func(u *api.Unit, v *api.Var, x *api.Task) {
			u.Body.Nodes = append(slices.Clone(u.Body.Nodes), part(t, diagram.Read, "z := z;")...)
		}, "step": func(u *api.Unit, v *api.Var, x *api.Task) {
			u.Body.Chart.Steps = append(slices.Clone(u.Body.Chart.Steps), api.Step{Name: "z", Initial: true})
		},
		"chart's name": func(u *api.Unit, v *api.Var, x *api.Task) { u.Body.Chart.Name = "z" }, "no text": func(u *api.Unit, v *api.Var, x *api.Task) { u.Body.Text = nil }, "no list": func(u *api.Unit, v *api.Var, x *api.Task) { u.Body.List = nil }, "no rungs": func(u *api.Unit, v *api.Var, x *api.Task) { u.Body.Rungs = nil }, "no nodes": func(u *api.Unit, v *api.Var, x *api.Task) { u.Body.Nodes = nil },
		"no chart": func(u *api.Unit, v *api.Var, x *api.Task) { u.Body.Chart = api.Chart{} }, "variable's name": func(u *api.Unit, v *api.Var, x *api.Task) { v.Name += "z" }, "class": func(u *api.Unit, v *api.Var, x *api.Task) { v.Class++ }, "less class": func(u *api.Unit, v *api.Var, x *api.Task) { v.Class-- }, "type": func(u *api.Unit, v *api.Var, x *api.Task) { v.Type.Kind++ },
		"other type": func(u *api.Unit, v *api.Var, x *api.Task) { v.Type = value(api.KTime) }, "block": func(u *api.Unit, v *api.Var, x *api.Task) { v.Type = block("z") }, "block's name": func(u *api.Unit, v *api.Var, x *api.Task) { v.Type.Block += "z" }, "array": func(u *api.Unit, v *api.Var, x *api.Task) { v.Type.N++ }, "no array": func(u *api.Unit, v *api.Var, x *api.Task) { v.Type.N = 0 },
		"value": func(u *api.Unit, v *api.Var, x *api.Task) { v.Init = append(slices.Clone(v.Init), 1) }, "other value": func(u *api.Unit, v *api.Var, x *api.Task) { v.Init = append(slices.Clone(v.Init), -9) }, "no values": func(u *api.Unit, v *api.Var, x *api.Task) { v.Init = nil }, "at": func(u *api.Unit, v *api.Var, x *api.Task) { v.At = "%m63" }, "not at": func(u *api.Unit, v *api.Var, x *api.Task) { v.At = "%m64" },
		"task's name": func(u *api.Unit, v *api.Var, x *api.Task) { x.Name += "z" }, "every": func(u *api.Unit, v *api.Var, x *api.Task) { x.Every++ }, "less": func(u *api.Unit, v *api.Var, x *api.Task) { x.Every = 10 }, "phase": func(u *api.Unit, v *api.Var, x *api.Task) { x.Phase++ }, "less phase": func(u *api.Unit, v *api.Var, x *api.Task) { x.Phase-- }, "priority": func(u *api.Unit, v *api.Var, x *api.Task) { x.Priority++ },
		"less priority": func(u *api.Unit, v *api.Var, x *api.Task) { x.Priority-- }, "program": func(u *api.Unit, v *api.Var, x *api.Task) { x.Programs = append(slices.Clone(x.Programs), "z") }, "no programs": func(u *api.Unit, v *api.Var, x *api.Task) { x.Programs = nil },
	}
}

// TestChanged changes fields of projects, and expects that only those are well formed that can be read.
func TestChanged(t *testing.T) {
	whole := read(t, someSource)
	expectForm(t, whole, api.OK)
	good := 0
	for i := range whole.Units {
		for what, change := range changes(t) {
			for j := range max(1, len(whole.Units[i].Vars)) {
				p := read(t, someSource)
				v := &api.Var{}
				if len(p.Units[i].Vars) > 0 {
					v = &p.Units[i].Vars[j]
				}
				change(&p.Units[i], v, &p.Tasks[i%2])
				can := canBeWritten(p)
				if can {
					good++
				}
				if (project.Check(p) == api.OK) != can {
					t.Errorf("unit %d, %v, %v, with another %s: Check %d", i, p.Units[i], p.Tasks[i%2], what, project.Check(p))
				}
				same := reflect.DeepEqual(p, whole)
				if project.Same(p, whole) != same || project.Same(whole, p) != same || !project.Same(p, p) {
					t.Errorf("Same of unit %d, %v, with another %s", i, p.Units[i], what)
				}
			}
		}
	}
	if good < 100 {
		t.Errorf("only %d good ones", good)
	}
}

func TestSame(t *testing.T) {
	unit := func(u api.Unit) api.Project { return api.Project{Units: of(u)} }
	body := func(b api.Body) api.Project { return unit(api.Unit{Body: b}) }
	variable := func(v api.Var) api.Project { return unit(api.Unit{Vars: of(v)}) }
	task := func(x api.Task) api.Project { return api.Project{Tasks: of(x)} }
	l := []api.Project{{}, unit(api.Unit{}), {Units: make([]api.Unit, 2)}, unit(api.Unit{Kind: -1}), unit(api.Unit{Name: "?"}), unit(api.Unit{Result: -1}), variable(api.Var{}), variable(api.Var{Name: "?"}), variable(api.Var{Class: -1}), variable(api.Var{Type: value(9)}), variable(api.Var{Type: array(0, -1)}), variable(api.Var{Type: api.Type{Block: "?"}}),
		variable(api.Var{Init: of(0)}), variable(api.Var{Init: of(math.MinInt)}), variable(api.Var{At: "?"}), body(api.Body{Lang: -1}), body(api.Body{Text: of(api.Stmt{})}), body(api.Body{Text: of(api.Stmt{Op: -1})}), body(api.Body{List: of(api.Line{})}), body(api.Body{Rungs: of(api.Rung{})}), body(api.Body{Nodes: of(api.Node{})}), body(api.Body{Chart: api.Chart{Name: "?"}}),
		task(api.Task{}), {Tasks: make([]api.Task, 2)}, task(api.Task{Name: "?"}), task(api.Task{Every: -1}), task(api.Task{Phase: -1}), task(api.Task{Priority: -1}), task(api.Task{Programs: of("")}), task(api.Task{Programs: of("?")}), {Units: make([]api.Unit, 1), Tasks: make([]api.Task, 1)}}
	for i, a := range l {
		for j, b := range l {
			if project.Same(a, b) != (i == j) {
				t.Errorf("Same(%v, %v)", a, b)
			}
		}
	}
	if !project.Same(api.Project{Units: []api.Unit{}, Tasks: []api.Task{}}, api.Project{}) || !project.Same(unit(api.Unit{Vars: []api.Var{}, Body: api.Body{Text: []api.Stmt{}, List: []api.Line{}, Rungs: []api.Rung{}, Nodes: []api.Node{}, Chart: api.Chart{Steps: []api.Step{}}}}), unit(api.Unit{})) ||
		!project.Same(variable(api.Var{Init: []int{}}), variable(api.Var{})) || !project.Same(task(api.Task{Programs: []string{}}), task(api.Task{})) {
		t.Error("an empty list is equal to nil")
	}
	// An empty list is as good as none.
	expectForm(t, api.Project{Units: of(api.Unit{Kind: api.UBlock, Name: "b", Vars: []api.Var{}, Body: api.Body{Lang: api.InText, Text: []api.Stmt{}, List: []api.Line{}, Chart: api.Chart{Inner: []api.Chart{}}}})}, api.OK)
}

// randomProject returns a project that is perhaps not well formed.
func randomProject(t *testing.T, r *rand.Rand) api.Project {
	name := func() string { return []string{"a", "b", "c", "twelve_bytes"}[r.Intn(4)] }
	bodies := read(t, someSource).Units
	var p api.Project
	for range r.Intn(4) {
		u := api.Unit{Kind: 1 + r.Intn(3), Name: name(), Body: bodies[r.Intn(len(bodies))].Body}
		if u.Kind == api.UFunction {
			u.Result = 1 + r.Intn(3)
		}
		for range r.Intn(6) {
			v := api.Var{Name: name(), Class: 1 + r.Intn(4), Type: value(1 + r.Intn(4))}
			if v.Type.Kind == api.KBlock {
				v.Type.Block = name()
			} else {
				v.Type.N = r.Intn(4) * r.Intn(2)
			}
			for range r.Intn(3) * r.Intn(2) * r.Intn(2) {
				v.Init = append(v.Init, r.Intn(3))
			}
			if r.Intn(3) == 0 {
				v.At = []string{"%i1", "%q63", "%m0"}[r.Intn(3)]
			}
			u.Vars = append(u.Vars, v)
		}
		p.Units = append(p.Units, u)
	}
	for range r.Intn(3) {
		p.Tasks = append(p.Tasks, api.Task{Name: name(), Every: 1 + r.Intn(3), Phase: r.Intn(2), Priority: r.Intn(102), Programs: of("p", "q", "r")[r.Intn(3):]})
	}
	return p
}

// TestProjectsAgain is about P8.5: what is written is read again, and written in the same way.
func TestProjectsAgain(t *testing.T) {
	r := rand.New(rand.NewSource(5))
	good := 0
	for range 4000 {
		p := randomProject(t, r)
		text, err := project.Text(p)
		if (err == api.OK) != canBeWritten(p) || (project.Check(p) == api.OK) != (err == api.OK) {
			t.Fatalf("Text(%v) = %q, %d", p, text, err)
		}
		if err != api.OK {
			continue
		}
		good++
		got, _, err := project.Read(text)
		again, _ := project.Text(got)
		if err != api.OK || !project.Same(got, p) || again != text {
			t.Fatalf("%q is read as %v, %d", text, got, err)
		}
	}
	if good < 1000 || good > 3500 {
		t.Errorf("%d good projects", good)
	}
}
