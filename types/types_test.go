package types_test

import (
	"fmt"
	"math"
	"reflect"
	"slices"
	"strings"
	"testing"

	"winch/api"
	"winch/project"
	"winch/types"
)

func of[T any](l ...T) []T { return l }

// read returns the project of a source.
func read(t *testing.T, source string) api.Project {
	t.Helper()
	p, at, err := project.Read(source)
	if err != api.OK {
		t.Fatalf("Read(%q): %d, %d", source, at, err)
	}
	return p
}

// standardBlocks has the variables of each standard block.
var standardBlocks = map[string]string{
	"ton": "input in bool, input pt time, output q bool, output et time, local since time, local runs bool", "tof": "input in bool, input pt time, output q bool, output et time, local since time, local runs bool", "tp": "input in bool, input pt time, output q bool, output et time, local since time, local runs bool",
	"ctu": "input cu bool, input r bool, input pv int, output q bool, output cv int, local was bool", "ctd": "input cd bool, input load bool, input pv int, output q bool, output cv int, local was bool",
	"sr": "input s1 bool, input r bool, output q1 bool", "rs": "input s bool, input r1 bool, output q1 bool", "rtrig": "input clk bool, output q bool, local was bool", "ftrig": "input clk bool, output q bool, local was bool",
}

func TestStandard(t *testing.T) {
	for name, want := range standardBlocks {
		p := read(t, "block b "+strings.ReplaceAll(want, ",", ";")+"; st end")
		got, is := types.Standard(name)
		if !is || !reflect.DeepEqual(got, p.Units[0].Vars) {
			t.Errorf("Standard(%s) = %v, %v; want %s", name, got, is, want)
		}
		clear(got)
		if again, _ := types.Standard(name); !reflect.DeepEqual(again, p.Units[0].Vars) {
			t.Errorf("Standard(%s) again: %v", name, again)
		}
	}
	for _, name := range of("", "TON", "ton ", "abs", "b", "t", strings.Repeat("ton", 1<<16)) {
		if l, is := types.Standard(name); is || len(l) != 0 {
			t.Errorf("Standard(%.20q) = %v, %v", name, l, is)
		}
	}
}

// written returns what Layout and Initial say of a unit.
func written(t *testing.T, p api.Project, unit int) string {
	t.Helper()
	cells, err := types.Layout(p, unit)
	values, errOfValues := types.Initial(p, unit)
	if err != api.OK || errOfValues != api.OK || len(cells) != len(values) {
		t.Errorf("Layout %v, %d; Initial %v, %d", cells, err, values, errOfValues)
		return ""
	}
	var l []string
	for i, c := range cells {
		l = append(l, fmt.Sprintf("%s %c%c%s %d=%d", c.Name, "?bit!"[c.Kind], "?iolr"[c.Class], c.At, c.Var, values[i]))
	}
	return strings.Join(l, ", ")
}

// expectFrame checks what Frame and Depth say of a unit.
func expectFrame(t *testing.T, p api.Project, unit int, starts []int, hidden, all, depth int) {
	t.Helper()
	gotStarts, gotHidden, gotAll, err := types.Frame(p, unit)
	gotDepth, errOfDepth := types.Depth(p, unit)
	if !slices.Equal(gotStarts, starts) || gotHidden != hidden || gotAll != all || err != api.OK || gotDepth != depth || errOfDepth != api.OK {
		t.Errorf("Frame = %v, %d, %d, %d, Depth = %d, %d; want %v, %d, %d, %d", gotStarts, gotHidden, gotAll, err, gotDepth, errOfDepth, starts, hidden, all, depth)
	}
}

func TestCells(t *testing.T) {
	for _, x := range []struct {
		source, want string
		starts       []int
		hidden, all  int
		depth        int
	}{
		{"program p st end", "", nil, 0, 0, 0},
		{"program p input a bool; n int := -5 at %i3; d time := t#7; output q bool := true at %q63; local l int; retain r time at %m0; st end", "a bi 0=0, n ii%i3 1=-5, d ti 2=7, q bo%q63 3=1, l il 4=0, r tr%m0 5=0", of(0, 1, 2, 3, 4, 5), 6, 6, 0},
		{"block p input x int[3] := 1, 2 at %i3; output y bool[1] := true at %q1; local z time[2]; a int; st end", "x[0] ii 0=1, x[1] ii 0=2, x[2] ii 0=0, y[0] bo 1=1, z[0] tl 2=0, z[1] tl 2=0, a il 3=0", of(0, 3, 4, 6), 7, 7, 0},
		{"program p input a bool; local t1 ton; x int[2]; st end", "a bi 0=0, t1.in bl 1=0, t1.pt tl 1=0, t1.q bl 1=0, t1.et tl 1=0,  tl 1=0,  bl 1=0, x[0] il 2=0, x[1] il 2=0", of(0, 1, 7), 9, 9, 1},
		{"program p input c ctu; output d ctd at %q1; retain f ftrig; g rtrig; st end", "c.cu bi 0=0, c.r bi 0=0, c.pv ii 0=0, c.q bi 0=0, c.cv ii 0=0,  bi 0=0, d.cd bo 1=0, d.load bo 1=0, d.pv io 1=0, d.q bo 1=0, d.cv io 1=0,  bo 1=0, f.clk br 2=0, f.q br 2=0,  br 2=0, g.clk br 3=0, g.q br 3=0,  br 3=0", of(0, 6, 12, 15), 18, 18, 1},
		{"program p local a sr; b rs; t tof; u tp; il end", "a.s1 bl 0=0, a.r bl 0=0, a.q1 bl 0=0, b.s bl 1=0, b.r1 bl 1=0, b.q1 bl 1=0, t.in bl 2=0, t.pt tl 2=0, t.q bl 2=0, t.et tl 2=0,  tl 2=0,  bl 2=0, u.in bl 3=0, u.pt tl 3=0, u.q bl 3=0, u.et tl 3=0,  tl 3=0,  bl 3=0", of(0, 3, 6, 12), 18, 18, 1},
		// Blocks that are units, with what is in them.
		{"program p local v b; output w b; st end block b input i int := 5 at %i1; local x bool[2] := true; e rtrig; retain r c; st end block c output q time := t#3; st end",
			"v.i il 0=5, v.x[0] bl 0=1, v.x[1] bl 0=0, v.e.clk bl 0=0, v.e.q bl 0=0,  bl 0=0, v.r.q tl 0=3, w.i io 1=5, w.x[0] bo 1=1, w.x[1] bo 1=0, w.e.clk bo 1=0, w.e.q bo 1=0,  bo 1=0, w.r.q to 1=3", of(0, 7), 14, 14, 2},
		{"program p local a b; c int; st end block b ld rung: +x & -y & x -> +z, -x, set x, jump l; rung l: a | (-a & +b) -> q; end", " bl 0=0,  bl 0=0,  bl 0=0,  bl 0=0,  bl 0=0,  bl 0=0, c il 1=0", of(0, 6), 7, 7, 1},
		// A block has the first unit of its name, and a standard one none.
		{"program p local a b; c ton; st end block b local n int; st end block b local m bool; st end block ton local k int; st end", "a.n il 0=0, c.in bl 1=0, c.pt tl 1=0, c.q bl 1=0, c.et tl 1=0,  tl 1=0,  bl 1=0", of(0, 1), 7, 7, 1},
		// Hidden cells.
		{"program p input a bool; ld rung: +a -> a; end", "a bi 0=0,  bl -1=0", of(0), 1, 2, 0},
		{"program p input a bool; ld rung: a & [b] & (/a | box t1(in).q) -> a, /b, set c, reset d; end", "a bi 0=0", of(0), 1, 1, 0},
		{"program p ld rung: +a & -b -> +c, -d; rung: (+a | -a) & true -> a; end", strings.Repeat(" bl -1=0, ", 6)[:58], nil, 0, 6, 0},
		{"program p retain a bool; sfc step s; initial step t; step u; from s to t when a; end", "a br 0=0,  il -1=0,  il -1=2,  il -1=0,  tl -1=0,  tl -1=0,  tl -1=0", of(0), 1, 7, 0},
		{"program p sfc initial step s macro m; step u; initial step v; macro m(i, o) step o; step j macro n; step i; macro n(x, x) step x; end; end; macro k(a, a) step a; end; end", " il -1=0,  il -1=0,  il -1=2,  il -1=0,  il -1=2,  tl -1=0,  tl -1=0,  tl -1=0,  tl -1=0,  tl -1=0", nil, 0, 10, 0},
		{"program p local a b; c b; st end block b local x bool; sfc initial step s; end", "a.x bl 0=0,  il 0=2,  tl 0=0, c.x bl 1=0,  il 1=2,  tl 1=0", of(0, 3), 6, 6, 1},
		{"block p input a bool; fbd q := :1; 1: not(a); end", "a bi 0=0", of(0), 1, 1, 0},
		// A function has the cells of its variables alone.
		{"function f : int input a int; local b bool := true; t ton; st f := a; end", "a ii 0=0, b bl 1=1, t.in bl 2=0, t.pt tl 2=0, t.q bl 2=0, t.et tl 2=0,  tl 2=0,  bl 2=0", of(0, 1, 2), 8, 8, 1},
		{"function f : bool input a bool; ld rung: +a -> f; end", "a bi 0=0", of(0), 1, 1, 0},
		{"function f : bool input a bool; sfc initial step s; end", "a bi 0=0", of(0), 1, 1, 0},
		// What is twice there, is laid out twice.
		{"program p input a int := 1; a bool; local a int[1]; st end", "a ii 0=1, a bi 1=0, a[0] il 2=0", of(0, 1, 2), 3, 3, 0},
		{"program p local a e; b e; c int; st end block e st end", "c il 2=0", of(0, 0, 0), 1, 1, 1},
	} {
		p := read(t, x.source)
		if got := written(t, p, 0); got != x.want {
			t.Errorf("%q has\n%s; want\n%s", x.source, got, x.want)
		}
		expectFrame(t, p, 0, x.starts, x.hidden, x.all, x.depth)
	}
}

// TestUnits looks at other units than the first one.
func TestUnits(t *testing.T) {
	p := read(t, "block a local x b; y ton; st end block b local z c; st end block c local n int; t tp; st end program p local x c; v a; st end function f : int input x int; st end")
	for unit, want := range of(3, 2, 1, 4, 0) {
		if n, err := types.Depth(p, unit); n != want || err != api.OK {
			t.Errorf("Depth(%d) = %d, %d; want %d", unit, n, err, want)
		}
	}
	if got := written(t, p, 2); got != "n il 0=0, t.in bl 1=0, t.pt tl 1=0, t.q bl 1=0, t.et tl 1=0,  tl 1=0,  bl 1=0" {
		t.Error(got)
	}
	if got := written(t, p, 4); got != "x ii 0=0" {
		t.Error(got)
	}
	starts, hidden, all, err := types.Frame(p, 3)
	if !slices.Equal(starts, of(0, 7)) || hidden != 20 || all != 20 || err != api.OK {
		t.Errorf("Frame = %v, %d, %d, %d", starts, hidden, all, err)
	}
}

// expectError checks what all functions say of a unit that cannot be laid out.
func expectError(t *testing.T, what string, p api.Project, unit int, want api.Errno) {
	t.Helper()
	cells, e1 := types.Layout(p, unit)
	values, e2 := types.Initial(p, unit)
	starts, hidden, all, e3 := types.Frame(p, unit)
	depth, e4 := types.Depth(p, unit)
	if e1 != want || e2 != want || e3 != want || e4 != want || len(cells)+len(values)+len(starts)+hidden+all+depth != 0 {
		t.Errorf("%.200s: Layout %v, %d; Initial %v, %d; Frame %v, %d, %d, %d; Depth %d, %d; want %d", what, cells, e1, values, e2, starts, hidden, all, e3, depth, e4, want)
	}
	for _, l := range [][]int{nil, {0}, make([]int, 401)} {
		if types.IsCells(p, unit, l) {
			t.Errorf("%.200s: IsCells(%v)", what, l)
		}
	}
}

// words returns words with numbers, each behind the one before.
func words(n int, word string) string {
	var all strings.Builder
	for i := range n {
		all.WriteString(strings.ReplaceAll(word, "#", fmt.Sprint(i)))
	}
	return all.String()
}

// macros is a chart of more than MaxSteps steps, when it is flattened.
var macros = "sfc initial step s macro m; step u macro n; macro m(a0, a0) " + words(15, "step a#; ") + "end; macro n(a0, a0) " + words(16, "step a#; ") + "end; end"

// sameSteps is a chart in which two steps have one name, when it is flattened.
const sameSteps = "sfc initial step s macro m; step s_a; macro m(a, a) step a; end; end"

// manyEdges returns a ladder with a number of edges.
func manyEdges(n int) string { return "ld " + words(n, "rung: +a -> a; ") + "end" }

func TestErrors(t *testing.T) {
	cells := func(n int) string { return "local " + words(n/32, "x# int[32]; ") + words(n%32, "y# bool; ") }
	full := "block full " + cells(400) + "st end "
	for _, x := range []struct {
		source string
		want   api.Errno
	}{
		{"program p local a b; st end", api.ErrName}, {"program p local a abs; st end", api.ErrName}, {"program p local a p; st end", api.ErrKind}, {"program p local a q; st end program q st end", api.ErrKind}, {"program p local a f; st end function f : int st end", api.ErrKind}, {"program p local a b; st end program b st end block b st end", api.ErrKind},
		{"block b local x b; st end", api.ErrRing}, {"block b local x c; st end block c local x b; st end", api.ErrRing}, {"block b local x c; st end block c local x c; st end", api.ErrRing}, {"program p local x b; st end block b local y c; st end block c local y d; st end block d local x c; st end", api.ErrRing}, {"function f : int local x b; st end block b input x b; st end", api.ErrRing},
		{"program p local x b; y b; st end block b local x c; y c; st end block c local x d; st end block d local x ton; st end", api.OK},
		// Variables come one after the other, and what is in them before the unit itself.
		{"program p local a f; b x; st end function f : int st end", api.ErrKind}, {"program p local a b; c f; st end function f : int st end", api.ErrName}, {"program p local a b; c x; st end block b local a b; st end", api.ErrRing}, {"program p local c x; a b; st end block b local a b; st end", api.ErrName}, {"program p local a b; c f; st end block b local a x; st end function f : int st end", api.ErrName},
		{"block b local x c; st end block c local x b; y z; st end", api.ErrRing}, {"block b local x c; y z; st end block c local x b; st end", api.ErrRing}, {"block b local x c; st end block c local y z; x b; st end", api.ErrName}, {"program p " + cells(401) + "a b; st end", api.ErrName}, {"program p local a b; " + cells(401) + "st end block b local x b; st end", api.ErrRing}, {"program p local a b; " + manyEdges(33), api.ErrName},
		{"program p local a full; b c; st end " + full + "block c " + cells(401) + "st end", api.ErrFull}, {"program p local a c; b d; st end block c " + cells(401) + "st end", api.ErrFull}, {"program p local b d; a c; st end block c " + cells(401) + "st end", api.ErrName}, {"program p local a b; st end block b local a f; " + macros + " function f : int st end", api.ErrKind},
		// Too many cells, edges or steps.
		{"program p " + cells(400) + "st end", api.OK}, {"program p " + cells(401) + "st end", api.ErrFull}, {"program p local a full; st end " + full, api.OK}, {"program p local a full; b bool; st end " + full, api.ErrFull}, {"program p local a full; e none; st end block none st end " + full, api.OK}, {"program p " + words(2, "local a# full; ") + "st end " + full, api.ErrFull}, {"function f : int " + cells(401) + "st end", api.ErrFull}, {"function f : int " + cells(400) + "st end", api.OK},
		{"program p " + cells(399) + manyEdges(1), api.OK}, {"program p " + cells(399) + manyEdges(2), api.ErrFull}, {"program p " + cells(398) + "sfc initial step s; end", api.OK}, {"program p " + cells(399) + "sfc initial step s; end", api.ErrFull}, {"program p local a b; st end block b " + cells(399) + manyEdges(2), api.ErrFull},
		{"program p " + manyEdges(32), api.OK}, {"program p " + manyEdges(33), api.ErrFull}, {"block p " + manyEdges(33), api.ErrFull}, {"program p ld rung: " + strings.Repeat("-a & ", 31) + "a -> +b; end", api.OK}, {"program p ld rung: " + strings.Repeat("-a & ", 32) + "a -> +b; end", api.ErrFull}, {"program p local a b; st end block b " + manyEdges(33), api.ErrFull},
		{"program p " + macros, api.ErrFull}, {"program p " + sameSteps, api.ErrFull}, {"program p sfc initial step s; " + words(29, "step s#; ") + "end", api.OK}, {"program p sfc initial step s; " + words(30, "step s#; ") + "end", api.ErrFull}, {"program p local a b; st end block b " + sameSteps, api.ErrFull},
		// A function has no hidden cells that count, but its body is too much like any other.
		{"function f : bool " + manyEdges(32), api.OK}, {"function f : bool " + manyEdges(33), api.ErrFull}, {"function f : bool ld rung: " + strings.Repeat("-a & ", 32) + "a -> +b; end", api.ErrFull}, {"function f : bool " + cells(400) + manyEdges(32), api.OK}, {"function f : bool " + cells(400) + manyEdges(33), api.ErrFull}, {"function f : bool " + cells(401) + manyEdges(1), api.ErrFull}, {"function f : bool local a b; " + manyEdges(33), api.ErrName},
		{"function f : bool " + macros, api.ErrFull}, {"function f : bool " + sameSteps, api.ErrFull}, {"function f : bool sfc initial step s; " + words(29, "step s#; ") + "end", api.OK}, {"function f : bool sfc initial step s; " + words(30, "step s#; ") + "end", api.ErrFull}, {"function f : bool " + cells(400) + "sfc initial step s; end", api.OK}, {"function f : bool local a b; " + sameSteps + " block b local a f; st end", api.ErrKind},
	} {
		p := read(t, x.source)
		if x.want != api.OK {
			expectError(t, x.source, p, 0, x.want)
		} else if _, err := types.Layout(p, 0); err != api.OK {
			t.Errorf("Layout of %.200s: %d", x.source, err)
		}
	}
}

func TestArguments(t *testing.T) {
	p := read(t, "program p local a b; st end")
	for _, unit := range of(-1, 1, 2, math.MinInt, math.MaxInt) {
		expectError(t, "no unit", p, unit, api.ErrArg)
	}
	expectError(t, "no units", api.Project{}, 0, api.ErrArg)
	wrong := read(t, "program p local a b; st end")
	wrong.Units = append(wrong.Units, api.Unit{})
	expectError(t, "not well formed", wrong, 0, api.ErrArg)
	expectError(t, "too many units", api.Project{Units: slices.Repeat(p.Units, 17)}, 0, api.ErrArg)
	wrong = read(t, "program p local a b; st end")
	wrong.Units[0].Body.Lang = api.InChart
	expectError(t, "no chart", wrong, 0, api.ErrArg)
}

func TestSize(t *testing.T) {
	p := read(t, "program p local a x; st end block b local n int[3]; t ton; ld rung: +a -> q; end block c local b b; d b; st end block r local r r; st end block n local n x; st end function f : int st end block ton st end block full local "+words(13, "x# int[32]; ")+"st end block none st end")
	value := func(kind int) api.Type { return api.Type{Kind: kind} }
	array := func(kind, n int) api.Type { return api.Type{Kind: kind, N: n} }
	block := func(name string) api.Type { return api.Type{Kind: api.KBlock, Block: name} }
	for _, x := range []struct {
		t    api.Type
		want int
		err  api.Errno
	}{
		{value(api.KBool), 1, api.OK}, {value(api.KInt), 1, api.OK}, {value(api.KTime), 1, api.OK}, {array(api.KInt, 1), 1, api.OK}, {array(api.KBool, 32), 32, api.OK}, {array(api.KTime, 7), 7, api.OK}, {block("ton"), 6, api.OK}, {block("ctd"), 6, api.OK}, {block("sr"), 3, api.OK}, {block("ftrig"), 3, api.OK}, {block("b"), 10, api.OK}, {block("c"), 20, api.OK}, {block("none"), 0, api.OK},
		{block("x"), 0, api.ErrName}, {block("abs"), 0, api.ErrName}, {block("f"), 0, api.ErrKind}, {block("p"), 0, api.ErrKind}, {block("r"), 0, api.ErrRing}, {block("n"), 0, api.ErrName}, {block("full"), 0, api.ErrFull},
		{value(0), 0, api.ErrArg}, {value(5), 0, api.ErrArg}, {value(-1), 0, api.ErrArg}, {value(math.MinInt), 0, api.ErrArg}, {array(api.KInt, -1), 0, api.ErrArg}, {array(api.KInt, 33), 0, api.ErrArg}, {array(api.KInt, math.MaxInt), 0, api.ErrArg}, {value(api.KBlock), 0, api.ErrArg}, {block("if"), 0, api.ErrArg}, {block("X"), 0, api.ErrArg}, {block(strings.Repeat("x", 1<<16)), 0, api.ErrArg},
		{api.Type{Kind: api.KBlock, N: 1, Block: "ton"}, 0, api.ErrArg}, {api.Type{Kind: api.KInt, Block: "ton"}, 0, api.ErrArg},
	} {
		if n, err := types.Size(p, x.t); n != x.want || err != x.err {
			t.Errorf("Size(%v) = %d, %d; want %d, %d", x.t, n, err, x.want, x.err)
		}
	}
	if n, err := types.Size(api.Project{Units: of(api.Unit{})}, value(api.KInt)); n != 0 || err != api.ErrArg {
		t.Errorf("Size in what is not well formed: %d, %d", n, err)
	}
	if n, err := types.Size(api.Project{}, value(api.KInt)); n != 1 || err != api.OK {
		t.Errorf("Size in nothing: %d, %d", n, err)
	}
}

func TestIsCells(t *testing.T) {
	p := read(t, "program p input a bool; n int; d time; local r rtrig; x bool[2]; ld rung: +a -> a; end program q sfc initial step s; end")
	good := of(1, math.MinInt32, math.MaxInt32, 0, 1, 0, 1, 0, 1)
	if !types.IsCells(p, 0, good) || !types.IsCells(p, 1, of(5, -5)) || types.IsCells(p, 1, good) || !types.IsCells(read(t, "program p st end"), 0, nil) {
		t.Error("cells")
	}
	for _, l := range [][]int{nil, good[1:], append(slices.Clone(good), 0), make([]int, 1<<16)} {
		if types.IsCells(p, 0, l) {
			t.Errorf("IsCells of %d cells", len(l))
		}
	}
	for i := range good {
		isBool := i != 1 && i != 2
		for n, is := range map[int]bool{-1: !isBool, 0: true, 1: true, 2: !isBool, math.MinInt32: !isBool, math.MaxInt32: !isBool, math.MinInt32 - 1: false, math.MaxInt32 + 1: false, math.MinInt: false, math.MaxInt: false} {
			l := slices.Clone(good)
			l[i] = n
			if types.IsCells(p, 0, l) != is {
				t.Errorf("IsCells with %d at %d: %v", n, i, !is)
			}
		}
	}
	for i := range 2 {
		for n, is := range map[int]bool{math.MinInt32: true, math.MaxInt32: true, math.MinInt32 - 1: false, math.MaxInt32 + 1: false} {
			l := of(2, 0)
			l[i] = n
			if types.IsCells(p, 1, l) != is {
				t.Errorf("IsCells of a chart with %d at %d: %v", n, i, !is)
			}
		}
	}
}
