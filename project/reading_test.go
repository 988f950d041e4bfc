package project_test

import (
	"math/rand"
	"reflect"
	"strings"
	"testing"

	"winch/api"
	"winch/chart"
	"winch/diagram"
	"winch/internal/ebnf"
	"winch/ladder"
	"winch/list"
	"winch/project"
	"winch/syntax"
)

func of[T any](l ...T) []T { return l }

// read returns the project of a source.
func read(t *testing.T, source string) api.Project {
	t.Helper()
	p, at, err := project.Read(source)
	if err != api.OK {
		t.Fatalf("Read(%q): %d, %d", source, at, err)
	}
	return p
}

// part returns what a layer reads.
func part[T any](t *testing.T, read func(string) (T, int, api.Errno), source string) T {
	t.Helper()
	x, at, err := read(source)
	if err != api.OK {
		t.Fatalf("%q: %d, %d", source, at, err)
	}
	return x
}

// expectProject checks that a source is read as a project, with any blanks, and that this is written as a text.
func expectProject(t *testing.T, source, text string, want api.Project) {
	t.Helper()
	for _, s := range []string{source, strings.ReplaceAll(source, " ", " \t\n// ; end\n"), text} {
		p, at, err := project.Read(s)
		if err != api.OK || at != 0 || !reflect.DeepEqual(p, want) {
			t.Errorf("Read(%q) = %v, %d, %d; want %v", s, p, at, err, want)
		}
	}
	if got, err := project.Text(want); got != text || err != api.OK {
		t.Errorf("Text(%v) = %q, %d; want %q", want, got, err, text)
	}
	if err := project.Check(want); err != api.OK {
		t.Errorf("Check(%v) = %d", want, err)
	}
}

func value(kind int) api.Type { return api.Type{Kind: kind} }

func array(kind, n int) api.Type { return api.Type{Kind: kind, N: n} }

func block(name string) api.Type { return api.Type{Kind: api.KBlock, Block: name} }

// program returns a project of a program with variables, which does nothing.
func program(l ...api.Var) api.Project {
	return api.Project{Units: of(api.Unit{Kind: api.UProgram, Name: "p", Vars: l, Body: api.Body{Lang: api.InText}})}
}

func TestVariables(t *testing.T) {
	for source, want := range map[string]api.Var{
		"a bool;": {Name: "a", Type: value(api.KBool)}, "a int;": {Name: "a", Type: value(api.KInt)}, "a time;": {Name: "a", Type: value(api.KTime)}, "a ton;": {Name: "a", Type: block("ton")}, "a a;": {Name: "a", Type: block("a")}, "limit abs;": {Name: "limit", Type: block("abs")},
		"twelve_bytes twelve_bytes;": {Name: "twelve_bytes", Type: block("twelve_bytes")}, "a bool[1];": {Name: "a", Type: array(api.KBool, 1)}, "a int[32];": {Name: "a", Type: array(api.KInt, 32)}, "a time[2];": {Name: "a", Type: array(api.KTime, 2)},
		"a bool := true;": {Name: "a", Type: value(api.KBool), Init: of(1)}, "a bool := false;": {Name: "a", Type: value(api.KBool), Init: of(0)}, "a int := 0;": {Name: "a", Type: value(api.KInt), Init: of(0)}, "a int := -5;": {Name: "a", Type: value(api.KInt), Init: of(-5)},
		"a int := 2147483647;": {Name: "a", Type: value(api.KInt), Init: of(2147483647)}, "a int := -2147483647;": {Name: "a", Type: value(api.KInt), Init: of(-2147483647)}, "a time := t#500;": {Name: "a", Type: value(api.KTime), Init: of(500)}, "a time := t#2147483647;": {Name: "a", Type: value(api.KTime), Init: of(2147483647)},
		"a int[3] := 1, -2;": {Name: "a", Type: array(api.KInt, 3), Init: of(1, -2)}, "a int[2] := 1, 2;": {Name: "a", Type: array(api.KInt, 2), Init: of(1, 2)}, "a bool[3] := true, false, true;": {Name: "a", Type: array(api.KBool, 3), Init: of(1, 0, 1)}, "a time[1] := t#1;": {Name: "a", Type: array(api.KTime, 1), Init: of(1)},
		"a bool at %i0;": {Name: "a", Type: value(api.KBool), At: "%i0"}, "a int := 5 at %q63;": {Name: "a", Type: value(api.KInt), Init: of(5), At: "%q63"}, "x int[3] := 1, 2 at %i4;": {Name: "x", Type: array(api.KInt, 3), Init: of(1, 2), At: "%i4"}, "a ton at %m1;": {Name: "a", Type: block("ton"), At: "%m1"},
	} {
		for i, word := range []string{"input", "output", "local", "retain"} {
			want.Class = api.VInput + i
			expectProject(t, "program p "+word+" "+source+" st end", "program p\n  "+word+" "+source+"\nst\nend\n", program(want))
		}
	}
	// A value can be written as one of another kind, which it is, too.
	for source, want := range map[string]string{
		"a bool := 1;": "a bool := true;", "a bool[2] := 0, t#1;": "a bool[2] := false, true;", "a int := true;": "a int := 1;", "a int := t#5;": "a int := 5;", "a time := 5;": "a time := t#5;", "a time := false;": "a time := t#0;", "a int := - 0;": "a int := 0;", "a time := -0;": "a time := t#0;", "a bool := -0;": "a bool := false;",
	} {
		if text, err := project.Text(read(t, "program p local "+source+" st end")); err != api.OK || text != "program p\n  local "+want+"\nst\nend\n" {
			t.Errorf("%q is written as %q, %d", source, text, err)
		}
	}
}

func TestSections(t *testing.T) {
	v := func(name string, class int) api.Var { return api.Var{Name: name, Class: class, Type: value(api.KBool)} }
	expectProject(t, "program p input a bool; b bool; output input local c bool; d bool; local e bool; retain retain f bool; input g bool; a bool; st end", "program p\n  input a bool; b bool;\n  local c bool; d bool; e bool;\n  retain f bool;\n  input g bool; a bool;\nst\nend\n",
		program(v("a", api.VInput), v("b", api.VInput), v("c", api.VLocal), v("d", api.VLocal), v("e", api.VLocal), v("f", api.VRetain), v("g", api.VInput), v("a", api.VInput)))
	expectProject(t, "program p input output local retain st end", "program p\nst\nend\n", program())
}

func TestUnits(t *testing.T) {
	nothing := api.Body{Lang: api.InText}
	for source, want := range map[string]api.Unit{
		"program p": {Kind: api.UProgram, Name: "p"}, "block b": {Kind: api.UBlock, Name: "b"}, "function f : bool": {Kind: api.UFunction, Name: "f", Result: api.KBool}, "function f : int": {Kind: api.UFunction, Name: "f", Result: api.KInt}, "function ton : time": {Kind: api.UFunction, Name: "ton", Result: api.KTime},
	} {
		want.Body = nothing
		expectProject(t, source+" st end", source+"\nst\nend\n", api.Project{Units: of(want)})
		expectProject(t, source+" st end "+source+" st end", source+"\nst\nend\n"+source+"\nst\nend\n", api.Project{Units: of(want, want)})
	}
	expectProject(t, "", "", api.Project{})
	expectProject(t, " //program", "", api.Project{})
}

func TestBodies(t *testing.T) {
	statements, lines := part(t, syntax.Text, "q := not a; if a then exit; end_if;"), part(t, list.Read, "ld a; x: and ( ; ld b; ) ; st q; jmp x;")
	rungs, nodes := part(t, ladder.Read, "rung x: a & (b | /c) -> q; rung: true -> return;"), part(t, diagram.Read, "q := :1; 1: not(a);")
	c := part(t, chart.Read, "initial step a macro m; step b do enter (x := 1; y := 2;); from a to b when x; macro m(a, a) step a; macro n(b, b) step b; end; end;")
	for _, x := range []struct {
		source, word, text string
		want               api.Body
	}{
		{"st", "st", "", api.Body{Lang: api.InText}}, {"il", "il", "", api.Body{Lang: api.InList}}, {"ld", "ld", "", api.Body{Lang: api.InLadder}}, {"fbd", "fbd", "", api.Body{Lang: api.InDiagram}},
		{"st q := not a; if a then exit; end_if;", "st", "q := not a;\nif a then\n  exit;\nend_if;\n", api.Body{Lang: api.InText, Text: statements}}, {"il ld a; x: and ( ; ld b; ) ; st q; jmp x;", "il", "ld a;\nx: and(;\nld b;\n);\nst q;\njmp x;\n", api.Body{Lang: api.InList, List: lines}},
		{"ld rung x: a & (b | /c) -> q; rung: true -> return;", "ld", "rung x: a & (b | /c) -> q;\nrung: true -> return;\n", api.Body{Lang: api.InLadder, Rungs: rungs}}, {"fbd q := :1; 1: not(a);", "fbd", "q := :1;\n1: not(a);\n", api.Body{Lang: api.InDiagram, Nodes: nodes}},
		{"sfc from a to b when x; macro m(a, a) macro n(b, b) step b; end; step a; end; initial step a macro m; step b do enter (x := 1; y := 2;);", "sfc",
			"initial step a macro m;\nstep b do enter (x := 1; y := 2;);\nfrom a to b when x;\nmacro m (a, a) step a; macro n (b, b) step b; end; end;\n", api.Body{Lang: api.InChart, Chart: c}},
	} {
		indented := ""
		for line := range strings.Lines(x.text) {
			indented += "  " + line
		}
		u := api.Unit{Kind: api.UBlock, Name: "b", Vars: of(api.Var{Name: "a", Class: api.VInput, Type: value(api.KBool)}), Body: x.want}
		expectProject(t, "block b input a bool; "+x.source+" end", "block b\n  input a bool;\n"+x.word+"\n"+indented+"end\n", api.Project{Units: of(u)})
		if text, err := project.Body(x.want); err != api.OK || text != x.text {
			t.Errorf("Body(%v) = %q, %d; want %q", x.want, text, err, x.text)
		}
	}
}

func TestTasks(t *testing.T) {
	for source, want := range map[string]api.Task{
		"task t every t#100 priority 1 run p;": {Name: "t", Every: 100, Priority: 1, Programs: of("p")}, "task t every t#100 phase t#10 priority 1 run p, q;": {Name: "t", Every: 100, Phase: 10, Priority: 1, Programs: of("p", "q")}, "task t every t#1 priority 0 run p, p, p;": {Name: "t", Every: 1, Programs: of("p", "p", "p")},
		"task t every t#100000 phase t#99999 priority 100 run t;": {Name: "t", Every: 100000, Phase: 99999, Priority: 100, Programs: of("t")}, "task t every t#2 phase t#1 priority 0 run a, b, c, d, e, f, g, h, i, j, k, l, m, n, o, p;": {Name: "t", Every: 2, Phase: 1, Programs: strings.Split("abcdefghijklmnop", "")},
	} {
		expectProject(t, source, source+"\n", api.Project{Tasks: of(want)})
	}
	expectProject(t, "task t every t#5 phase t#0 priority 0 run p;", "task t every t#5 priority 0 run p;\n", api.Project{Tasks: of(api.Task{Name: "t", Every: 5, Programs: of("p")})})
	// Units and tasks can stand in any order, and units are written first.
	p := program()
	p.Units = append(p.Units, p.Units[0])
	p.Tasks = of(api.Task{Name: "t", Every: 5, Programs: of("p")}, api.Task{Name: "t", Every: 6, Programs: of("q")})
	expectProject(t, "task t every t#5 priority 0 run p; program p st end task t every t#6 priority 0 run q; program p st end", "program p\nst\nend\nprogram p\nst\nend\ntask t every t#5 priority 0 run p;\ntask t every t#6 priority 0 run q;\n", p)
}

func TestExamples(t *testing.T) {
	p := read(t, "program p input a bool; output q bool; st q := not a; end task t every t#100 priority 1 run p;")
	if len(p.Units) != 1 || len(p.Tasks) != 1 || p.Units[0].Kind != api.UProgram || p.Tasks[0].Every != 100 {
		t.Errorf("the first example: %v", p)
	}
	if p := read(t, "function f : int input x int; st f := x + 1; end"); p.Units[0].Result != api.KInt || len(p.Units[0].Vars) != 1 {
		t.Errorf("the third example: %v", p)
	}
}

func TestReadErrors(t *testing.T) {
	minus := strings.Repeat("-", 14) + "a"
	for _, x := range []struct {
		source string
		at     int
		e      api.Errno
	}{
		{"program", 7, api.ErrSyntax}, {"program st end", 8, api.ErrSyntax}, {"program p", 9, api.ErrSyntax}, {"program p end", 10, api.ErrSyntax}, {"program p st", 12, api.ErrSyntax}, {"program p q st end", 10, api.ErrSyntax}, {"program p : int st end", 10, api.ErrSyntax}, {"program p st end end", 17, api.ErrSyntax},
		{"program p st end;", 16, api.ErrSyntax}, {"program p; st end", 9, api.ErrSyntax}, {"block", 5, api.ErrSyntax}, {"block int st end", 6, api.ErrSyntax}, {"block b st st end", 11, api.ErrSyntax}, {"block b : bool st end", 8, api.ErrSyntax}, {"function f st end", 11, api.ErrSyntax}, {"function f: st end", 12, api.ErrSyntax},
		{"function f : ton st end", 13, api.ErrSyntax}, {"function f : int[3] st end", 16, api.ErrSyntax}, {"function f int st end", 11, api.ErrSyntax}, {"function : int st end", 9, api.ErrSyntax}, {"unit p st end", 0, api.ErrSyntax}, {"end", 0, api.ErrSyntax}, {"p", 0, api.ErrSyntax}, {"input a bool;", 0, api.ErrSyntax}, {"st q := 1;", 0, api.ErrSyntax},
		{"program p input a; st end", 17, api.ErrSyntax}, {"program p input a bool st end", 23, api.ErrSyntax}, {"program p input a bool, b bool; st end", 22, api.ErrSyntax}, {"program p input a : bool; st end", 18, api.ErrSyntax}, {"program p input a 5; st end", 18, api.ErrSyntax}, {"program p input a input; st end", 18, api.ErrSyntax},
		{"program p input a bool; b st end", 26, api.ErrSyntax}, {"program p input a ton[3]; st end", 21, api.ErrSyntax}, {"program p input a bool[]; st end", 23, api.ErrSyntax}, {"program p input a bool[n]; st end", 23, api.ErrSyntax}, {"program p input a bool[-1]; st end", 23, api.ErrSyntax}, {"program p input a bool[3; st end", 24, api.ErrSyntax},
		{"program p input a bool[t#3]; st end", 23, api.ErrSyntax}, {"program p input a int[1][2]; st end", 24, api.ErrSyntax}, {"program p input a int = 5; st end", 22, api.ErrSyntax}, {"program p input a int := ; st end", 25, api.ErrSyntax}, {"program p input a int := 1,; st end", 27, api.ErrSyntax}, {"program p input a int := b; st end", 25, api.ErrSyntax},
		{"program p input a int := 1 + 2; st end", 27, api.ErrSyntax}, {"program p input a int := --1; st end", 26, api.ErrSyntax}, {"program p input a int := -t#1; st end", 26, api.ErrSyntax}, {"program p input a int := -true; st end", 26, api.ErrSyntax}, {"program p input a int := +1; st end", 25, api.ErrSyntax}, {"program p input a int := (1); st end", 25, api.ErrSyntax},
		{"program p input a int := 1 2; st end", 27, api.ErrSyntax}, {"program p input a int := not true; st end", 25, api.ErrSyntax}, {"program p input a int at; st end", 24, api.ErrSyntax}, {"program p input a int at 5; st end", 25, api.ErrSyntax}, {"program p input a int at i5; st end", 25, api.ErrSyntax}, {"program p input a int at %i5 at %i6; st end", 29, api.ErrSyntax},
		{"program p input a int at %i5 := 1; st end", 29, api.ErrSyntax}, {"program p input a int := 5 at %i5, %i6; st end", 33, api.ErrSyntax}, {"program p input ; st end", 16, api.ErrSyntax}, {"program p var a int; st end", 10, api.ErrSyntax}, {"program p input st a int; end", 21, api.ErrSyntax}, {"program p st input a int; end", 13, api.ErrSyntax},
		{"program p input if bool; st end", 16, api.ErrSyntax}, {"program p input a if; st end", 18, api.ErrSyntax},
		{"program p st q := end", 18, api.ErrSyntax}, {"program p st q := 1 end", 20, api.ErrSyntax}, {"program p st q := 1; program q st end", 21, api.ErrSyntax}, {"program p st if a then end", 23, api.ErrSyntax}, {"program p st rung: a -> q; end", 13, api.ErrSyntax}, {"program p st q := 1; ] end", 21, api.ErrSyntax}, {"program p st q := 1;", 20, api.ErrSyntax},
		{"program p il ld end", 16, api.ErrSyntax}, {"program p il ld a end", 18, api.ErrSyntax}, {"program p il ld a; q := 1; end", 21, api.ErrSyntax}, {"program p il st; end", 15, api.ErrSyntax}, {"program p il and ( end", 19, api.ErrSyntax}, {"program p il x end", 15, api.ErrSyntax}, {"program p il jmp x; )", 21, api.ErrSyntax},
		{"program p ld rung end", 18, api.ErrSyntax}, {"program p ld rung: a -> q end", 26, api.ErrSyntax}, {"program p ld a -> q; end", 13, api.ErrSyntax}, {"program p ld rung: [a end", 22, api.ErrSyntax}, {"program p ld rung: a -> jump x; rung", 36, api.ErrSyntax},
		{"program p fbd 1 end", 16, api.ErrSyntax}, {"program p fbd 1: not(a) end", 24, api.ErrSyntax}, {"program p fbd q := :1; 1: end", 26, api.ErrSyntax}, {"program p fbd end_if; end", 14, api.ErrSyntax}, {"program p fbd q := a / / b; end", 23, api.ErrSyntax},
		{"program p sfc initial end", 22, api.ErrSyntax}, {"program p sfc initial step a; from end", 35, api.ErrSyntax}, {"program p sfc initial step a; end;", 33, api.ErrSyntax}, {"program p sfc macro m(a, a) step a; end", 39, api.ErrSyntax}, {"program p sfc macro m(a, a) step a; end end", 40, api.ErrSyntax}, {"program p sfc macro m(a, a) step a; end; initial step b; ] end", 57, api.ErrSyntax},
		{"program p sfc initial step a do enter (x := 1; end", 47, api.ErrSyntax}, {"program p sfc initial step a do enter (x := 1;) end", 48, api.ErrSyntax}, {"program p sfc step a; program", 22, api.ErrSyntax}, {"program p text q := 1; end", 10, api.ErrSyntax},
		{"task", 4, api.ErrSyntax}, {"task every t#1 priority 0 run p;", 5, api.ErrSyntax}, {"task t priority 0 run p;", 7, api.ErrSyntax}, {"task t every 5 priority 0 run p;", 13, api.ErrSyntax}, {"task t every t#1 run p;", 17, api.ErrSyntax}, {"task t every t#1 phase priority 0 run p;", 23, api.ErrSyntax}, {"task t every t#1 phase 5 priority 0 run p;", 23, api.ErrSyntax},
		{"task t every t#1 priority t#0 run p;", 26, api.ErrSyntax}, {"task t every t#1 priority run p;", 26, api.ErrSyntax}, {"task t every t#1 priority -1 run p;", 26, api.ErrSyntax}, {"task t every t#1 priority 0 phase t#0 run p;", 28, api.ErrSyntax}, {"task t every t#1 priority 0;", 27, api.ErrSyntax}, {"task t every t#1 priority 0 run;", 31, api.ErrSyntax},
		{"task t every t#1 priority 0 run p", 33, api.ErrSyntax}, {"task t every t#1 priority 0 run p,;", 34, api.ErrSyntax}, {"task t every t#1 priority 0 run p q;", 34, api.ErrSyntax}, {"task t every t#1 priority 0 run p; end", 35, api.ErrSyntax}, {"task t every t#1 priority 0 run program p;", 32, api.ErrSyntax},
		// Tokens come first, and what is not well formed comes last.
		{"program ; ?", 10, api.ErrSyntax}, {"program p st end %", 17, api.ErrSyntax}, {"program p st x := " + minus + "; end ;", 39, api.ErrSyntax}, {"program p il jmp x; end program", 31, api.ErrSyntax}, {"program p sfc end end", 18, api.ErrSyntax}, {"program p local a int[0]; st end task", 37, api.ErrSyntax},
		{strings.Repeat("block b st end ", 17) + "block", 17*15 + 5, api.ErrSyntax}, {strings.Repeat("?", api.MaxSource+1), 0, api.ErrFull},
	} {
		if p, at, e := project.Read(x.source); e != x.e || at != x.at || !reflect.DeepEqual(p, api.Project{}) {
			t.Errorf("Read(%.60q) = %v, %d, %d; want %d, %d", x.source, p, at, e, x.at, x.e)
		}
	}
}

const grammar = ebnf.Projects + ebnf.Charts + ebnf.Diagrams + ebnf.Ladders + ebnf.Lists + ebnf.Statements + ebnf.Expressions + ` piece = unit | task `

var randomTokens = strings.Fields("x y 0 1 t#5 %i1 true - ( ) [ ] , ; ; : := -> end end if program block function bool int input local retain at st il ld fbd sfc task every phase priority run rung initial step macro when jmp not")

// trial holds the reader against the grammar.
func trial(t *testing.T) ebnf.Trial {
	read := func(source string) (int, api.Errno) {
		p, at, err := project.Read(source)
		if err != api.OK && !reflect.DeepEqual(p, api.Project{}) {
			t.Errorf("%q has something with the error %d", source, err)
		}
		return at, err
	}
	return ebnf.Trial{Grammar: ebnf.Parse(grammar), Start: "project", Part: "piece", Most: 2, Tokens: randomTokens, Read: read, Complain: t.Error}
}

func TestFirstWrongToken(t *testing.T) {
	trial(t).Random(10000, rand.New(rand.NewSource(3)).Intn)
}

// TestFirstWrongTokenAnywhere puts each token behind each beginning of some sources, and one more behind that.
func TestFirstWrongTokenAnywhere(t *testing.T) {
	for _, source := range []string{
		"program p input a bool ; n int := - 5 , 3 at %i1 ; output q time [ 3 ] := t#5 , true ; local t1 ton ; st q := not ( a ) ; end",
		"function f : int retain x f ; il ld a ; x : and ( ; ld b ; ) ; jmp x ; end task t every t#5 phase t#1 priority 0 run p , q ;",
		"block b ld rung x : a & ( b | / c ) -> q ; rung : box t1 ( in , pt := t#5 ) . q -> return ; end program p fbd 1 : t1 ( in := :2 ) . q ; q := / :1 ; end",
		"task t every t#5 priority 0 run p ; program p sfc initial step a do while ( if a then exit ; end_if ; ) ; from a to a when b ; macro m ( a , a ) step a ; end ; end",
	} {
		trial(t).Behind(source)
	}
}

func TestAnySource(t *testing.T) {
	pieces := strings.Split("program p~block b~function f : int~ input~ local~ a bool;~ x int[2] := 1, 2 at %i1;~ st ~ il ~ ld ~ fbd ~ sfc ~ end ~q := a;~ld a;~rung: a -> q;~1: not(a);~initial step a;~step b;~task t~ every t#5~ phase t#1~ priority 0~ run p;~;~:~ ~\n~?~1~//~\x00~\xff~program p st end ~end;~:=~,", "~")
	trial(t).Pieces(pieces, 20000, rand.New(rand.NewSource(4)).Intn)
}
