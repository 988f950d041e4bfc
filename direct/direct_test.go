package direct_test

import (
	"fmt"
	"slices"
	"strings"
	"testing"

	"winch/api"
	"winch/direct"
	"winch/project"
	"winch/types"
)

func of[T any](l ...T) []T { return l }

// read returns the project of a source.
func read(t *testing.T, source string) api.Project {
	t.Helper()
	p, at, err := project.Read(source)
	if err != api.OK {
		t.Fatalf("Read(%q): %d, %d", source, at, err)
	}
	return p
}

// first returns the cells that a unit has at first.
func first(t *testing.T, p api.Project, unit int) []int {
	t.Helper()
	cells, err := types.Initial(p, unit)
	if err != api.OK {
		t.Fatalf("Initial: %d", err)
	}
	return cells
}

// run is a source of a project, the runs of its first unit, from its initial cells on, and what is found in its cells then. In runs
// are the inputs of each scan, which may begin with a time "@5"; want has the values of some cells after each scan, and "!1" for a
// fault.
type run struct{ source, runs, want string }

// parsed returns inputs and times; without a time, a scan has that of the scan before it.
func (x run) parsed() (inputs [][]int, times []int) {
	now := 0
	for _, scan := range strings.Split(x.runs, "|") {
		var values []int
		for _, word := range strings.Fields(scan) {
			n := 0
			fmt.Sscan(strings.TrimPrefix(word, "@"), &n)
			if word[0] == '@' {
				now = n
			} else {
				values = append(values, n)
			}
		}
		inputs, times = append(inputs, values), append(times, now)
	}
	return inputs, times
}

// seen returns the values of the cells with the names that stand in want.
func seen(cells []api.Cell, values []int, want string) string {
	var l []string
	for _, word := range strings.Fields(want) {
		name, _, _ := strings.Cut(word, "=")
		at := slices.IndexFunc(cells, func(c api.Cell) bool { return c.Name == name })
		if at < 0 {
			l = append(l, "no "+name)
			continue
		}
		l = append(l, fmt.Sprint(name, "=", values[at]))
	}
	return strings.Join(l, " ")
}

// expectRuns checks what comes of runs, and that scan after scan has the same result.
func expectRuns(t *testing.T, l []run) {
	t.Helper()
	for _, x := range l {
		source := x.source
		if !strings.HasPrefix(source, "block") {
			source = "program main " + source
		}
		p := read(t, source)
		inputs, times := x.parsed()
		all, fault, err := direct.Run(p, 0, first(t, p, 0), inputs, times)
		cells, _ := types.Layout(p, 0)
		var got []string
		want := strings.Split(x.want, " | ")
		for i, values := range all {
			got = append(got, seen(cells, values, want[min(i, len(want)-1)]))
		}
		if fault != api.FNone {
			got = append(got, fmt.Sprint("!", fault))
		}
		if strings.Join(got, " | ") != x.want || err != api.OK {
			t.Errorf("%s\n%s has\n%s, %d; want\n%s", x.source, x.runs, strings.Join(got, " | "), err, x.want)
		}
		expectScans(t, p, 0, inputs, times, all, fault)
	}
}

// expectScans checks that scans have the same results as a run.
func expectScans(t *testing.T, p api.Project, unit int, inputs [][]int, times []int, all [][]int, fault int) {
	t.Helper()
	positions, err := direct.Inputs(p, unit)
	if err != api.OK {
		t.Fatalf("Inputs: %d", err)
	}
	cells := first(t, p, unit)
	for i, l := range inputs {
		for k, at := range positions {
			cells[at] = l[k]
		}
		after, found, err := direct.Scan(p, unit, cells, times[i])
		switch {
		case err != api.OK || (found != api.FNone) != (i >= len(all)):
			t.Fatalf("scan %d: %v, %d, %d", i, after, found, err)
		case found != api.FNone:
			if found != fault || !slices.Equal(after, cells) {
				t.Fatalf("scan %d: %v, %d; want %v, %d", i, after, found, cells, fault)
			}
			return
		case !slices.Equal(after, all[i]):
			t.Fatalf("scan %d: %v; want %v", i, after, all[i])
		case !types.IsCells(p, unit, after):
			t.Fatalf("scan %d: %v are no cells", i, after)
		}
		cells = after
	}
}

func TestExpressions(t *testing.T) {
	const vars = "input a bool; n int; d time; local x int[3] := 5, 6, 7; b bool[2] := true; t t1; m int; q bool; e time; st "
	const end = " end block t1 input i int; output o int := 4; p bool; st o := i; p := i > 0; end function f : int input x int; y int; local z int := 3; st z := z + x; f := f + z - y; end function g : bool st end function h : time input d time; st h := d; return; h := t#1; end"
	set := func(statements, want string) run { return run{vars + statements + end, "1 7 9", want} }
	fault := func(statements string, want int) run {
		return run{vars + statements + end, "0 0 5", fmt.Sprint("!", want)}
	}
	expectRuns(t, []run{
		set("m := 5;", "m=5"), set("q := true;", "q=1"), set("e := t#8;", "e=8"), set("m := n;", "m=7"), set("q := a;", "q=1"), set("e := d;", "e=9"), set("m := x[0] * 100 + x[1] * 10 + x[2];", "m=567"), set("q := b[0];", "q=1"), set("q := b[1];", "q=0"), set("m := x[n - 5];", "m=7"), set("m := t.o;", "m=4"), set("q := t.p;", "q=0"),
		set("q := not a;", "q=0"), set("m := -n;", "m=-7"), set("m := n + 5;", "m=12"), set("e := d + t#5;", "e=14"), set("e := d - t#10;", "e=-1"), set("m := n - 9;", "m=-2"), set("m := n * 3;", "m=21"), set("m := n / 2;", "m=3"), set("m := n mod 4;", "m=3"), set("m := -n / 2;", "m=-3"),
		set("q := a and true;", "q=1"), set("q := a and false;", "q=0"), set("q := false or a;", "q=1"), set("q := a xor true;", "q=0"), set("q := n < 7;", "q=0"), set("q := n <= 7;", "q=1"), set("q := n > 6;", "q=1"), set("q := n >= 8;", "q=0"), set("q := n = 7;", "q=1"), set("q := n <> 7;", "q=0"), set("q := d < t#10;", "q=1"), set("q := a = b[0];", "q=1"), set("q := d = t#10;", "q=0"),
		set("m := 2147483647 + 1;", "m=-2147483648"), set("m := -2147483647 - 2;", "m=2147483647"), set("e := t#2147483647 + t#1;", "e=-2147483648"), set("m := 65536 * 65536;", "m=0"), set("m := (-2147483647 - 1) / -1;", "m=-2147483648"), set("m := 7 - 5 - 1;", "m=1"),
		set("m := max(n, 9);", "m=9"), set("m := limit(0, n, 5);", "m=5"), set("m := sel(a, 1, n);", "m=7"), set("q := tobool(n);", "q=1"), set("m := toint(d) + 1;", "m=10"), set("e := totime(-n);", "e=0"), set("m := abs(-n) + min(n, 1);", "m=8"),
		// Functions have cells of their own, which are new in every call.
		set("m := f(n, 1);", "m=9"), set("m := f(1, 0) * 100 + f(1, 0);", "m=404"), set("m := f(f(1, 2), f(3, 4));", "m=3"), set("m := f(n, x[0]) + t.o;", "m=9"), set("q := g();", "q=0"), set("e := h(d);", "e=9"), set("m := sel(g(), f(0, 0), 1);", "m=3"),
		// Faults, the first one from left to right; both operands are computed.
		fault("m := 1 / n;", 1), fault("m := 1 mod n;", 1), fault("m := 1; m := x[3]; m := 1 / 0;", 2), fault("m := x[-1];", 2), fault("q := b[2];", 2), fault("m := x[3] + 1 / n;", 2), fault("m := 1 / n + x[3];", 1), fault("q := a and 1 / n = 1;", 1), fault("q := true or x[9] = 1;", 2), fault("m := f(1 / n, x[3]);", 1), fault("m := max(x[3], 1 / n);", 2), fault("m := sel(a, 1, 1 / n);", 1), fault("m := x[1 / n];", 1), fault("m := x[x[0]];", 2), fault("m := x[2147483647 + 1];", 2),
		set("m := x[x[0] - 5];", "m=5"), set("m := 0 / n;", "m=0"), set("q := 0 = 0 / n or a;", "q=1"),
	})
}

func TestStatements(t *testing.T) {
	const vars = "input a bool; n int; local x int[3] := 5, 6, 7; m int; i int; q bool; k bk; c ctu; st "
	const end = " end block bk input v int := 3; w int := 4; x bool; output sum int; calls int; local here int; st calls := calls + 1; sum := sum + v * w; if x then return; end_if; here := here + 1; end function f : int input x int; st f := 1; if x = 0 then return; end_if; f := 10 / x; end"
	of := func(statements, runs, want string) run { return run{vars + statements + end, runs, want} }
	expectRuns(t, []run{
		of("", "1 7", "m=0 q=0 x[0]=5"), of("m := m + n; m := m * 2;", "1 7 | 0 1", "m=14 | m=30"),
		// The expression comes before the index.
		of("x[n] := 9;", "0 0 | 0 2 | 0 1", "x[0]=9 x[1]=6 x[2]=7 | x[0]=9 x[1]=6 x[2]=9 | x[0]=9 x[1]=9 x[2]=9"), of("m := 1; x[n] := 9;", "0 3", "!2"), of("x[n] := 1 / 0;", "0 3", "!1"), of("x[1 / 0] := x[n];", "0 3", "!2"), of("x[x[1] - 6] := x[1];", "0 0", "x[0]=6 x[1]=6"), of("m := 1; x[n] := 9;", "0 2 | 0 -1", "m=1 x[2]=9 | !2"),
		// Calls: all expressions come before the inputs are set.
		of("k(v := n);", "0 2 | 0 3", "k.sum=8 k.calls=1 k.v=2 k.w=4 k.here=1 | k.sum=20 k.calls=2 k.v=3 k.here=2"), of("k();", "0 0 | 0 0", "k.sum=12 | k.sum=24"), of("k(w := k.sum, v := k.calls + 1, x := a); m := k.sum;", "0 0 | 1 0 | 0 0", "m=0 k.here=1 | m=0 k.here=1 | m=0 k.here=2 k.calls=3"), of("k(v := 1, w := 1 / n);", "0 0", "!1"), of("k(v := n); k(w := n);", "0 2", "k.sum=12 k.calls=2"),
		of("c(cu := a, pv := n); q := c.q; m := c.cv;", "0 2 | 1 2 | 1 2 | 0 2 | 1 2 | 1 3", "q=0 m=0 | q=0 m=1 | q=0 m=1 | q=0 m=1 | q=1 m=2 | q=0 m=2"),
		// If: the first condition that is true; those behind it are not computed.
		of("if a then m := 1; elsif 1 / n = 1 then m := 2; elsif 6 / n = 3 then m := 3; else m := 4; end_if;", "1 0 | 0 1 | 0 2 | 0 3 | 0 0", "m=1 | m=2 | m=3 | m=4 | !1"), of("if a then m := m + 1; end_if;", "0 0 | 1 0 | 0 0 | 1 0", "m=0 | m=1 | m=1 | m=2"), of("if a then else m := m + 1; end_if;", "0 0 | 1 0 | 0 0", "m=1 | m=1 | m=2"), of("if a then elsif n = 1 then m := m + 1; end_if;", "0 1 | 1 1 | 0 0", "m=1 | m=1 | m=1"),
		// Case.
		of("case n of 1: m := 10; 2, -5: m := 20; 7: else m := 30; end_case;", "0 1 | 0 2 | 0 -5 | 0 7 | 0 3", "m=10 | m=20 | m=20 | m=20 | m=30"), of("case n * 2 of 4: m := m + 1; end_case;", "0 1 | 0 2 | 0 4", "m=0 | m=1 | m=1"), of("case n of else m := 1; end_case;", "0 1", "m=1"), of("case 1 / n of 0: m := 1; end_case;", "0 0", "!1"), of("case n of 1: m := 1 / 0; 2: m := 2; end_case;", "0 2 | 0 1", "m=2 | !1"),
		// For.
		of("for i := 1 to 3 do m := m + i; end_for;", "0 0", "m=6 i=3"), of("for i := 1 to n do m := m * 10 + i; end_for;", "0 1 | 0 0 | 0 3 | 0 -1", "m=1 i=1 | m=1 i=1 | m=1123 i=3 | m=1123 i=3"), of("for i := n to 1 by -2 do m := m * 10 + i; end_for;", "0 5 | 0 0 | 0 1", "m=531 i=1 | m=531 i=1 | m=5311 i=1"), of("for i := 1 to 10 by 4 do m := m * 10 + i; end_for;", "0 0", "m=159 i=9"),
		of("for i := 1 to 3 do m := m * 10 + i; i := 7; end_for;", "0 0", "m=123 i=7"), of("m := 3; for i := m to m + 2 do m := m + 100; end_for;", "0 0", "m=303 i=5"), of("for i := i to 2 do m := m + 1; end_for;", "0 0 | 0 0", "m=3 i=2 | m=4 i=2"),
		of("for i := 2147483645 to 2147483647 do m := m + 1; end_for;", "0 0", "m=3 i=2147483647"), of("for i := -2147483647 to -2147483647 - 1 by -1 do m := m + 1; end_for;", "0 0", "m=2 i=-2147483648"), of("for i := 5 to 2147483647 by 2147483647 do m := m + 1; end_for;", "0 0", "m=1 i=5"), of("for i := 0 to -5 by -2147483647 do m := m + 1; end_for;", "0 0", "m=1 i=0"), of("for i := 1 to 1 / n do end_for;", "0 1 | 0 0", "i=1 | !1"), of("for i := x[3] to 1 / n do end_for;", "0 0", "!2"),
		// While and repeat.
		of("while m < n do m := m + 2; end_while;", "0 5 | 0 5 | 0 7", "m=6 | m=6 | m=8"), of("while a do return; end_while; m := 1;", "1 0 | 0 0", "m=0 | m=1"), of("repeat m := m + 2; until m >= n end_repeat;", "0 5 | 0 5 | 0 0", "m=6 | m=8 | m=10"), of("repeat m := m + 1; until 6 / (m - 3) = n end_repeat;", "0 -3 | 0 0", "m=1 | !1"),
		// Exit and return.
		of("for i := 1 to 9 do if i = n then exit; end_if; m := m + 1; end_for;", "0 4 | 0 1 | 0 99", "m=3 i=4 | m=3 i=1 | m=12 i=9"), of("while true do m := m + 1; if m = 5 then exit; end_if; end_while; m := m * 2;", "0 0", "m=10"), of("repeat m := m + 1; if m = 5 then exit; end_if; until m = 3 end_repeat;", "0 0 | 0 0", "m=3 | m=5"), of("for i := 1 to 3 do while true do m := m + 1; exit; end_while; m := m + 10; end_for;", "0 0", "m=33"), of("while true do case n of 1: exit; else return; end_case; end_while; m := m + 1;", "0 1 | 0 2", "m=1 | m=1"),
		of("m := 1; return; m := 2;", "0 0", "m=1"), of("m := 1; if a then m := 2; return; end_if; m := 3;", "1 0 | 0 0", "m=2 | m=3"), of("for i := 1 to 3 do repeat m := m + 1; return; until true end_repeat; end_for; m := 9;", "0 0", "m=1 i=1"), of("repeat exit; until 1 / 0 = 1 end_repeat; m := 4;", "0 0", "m=4"),
		of("m := f(n) + f(1);", "0 5 | 0 0", "m=12 | m=11"),
	})
}
