package direct_test

import (
	"math"
	"slices"
	"strings"
	"testing"

	"winch/api"
	"winch/direct"
	"winch/syntax"
)

// expression returns the expression of a source.
func expression(t *testing.T, source string) api.Expr {
	t.Helper()
	e, at, err := syntax.Expr(source)
	if err != api.OK {
		t.Fatalf("Expr(%q): %d, %d", source, at, err)
	}
	return e
}

func TestInputs(t *testing.T) {
	p := read(t, "program p input a bool; x int[3]; output q bool; input c ctu; local n int; l b; input d time; st end block b input a int; local m int; input z b2; st end block b2 local t int; sfc initial step i; end program e local n int; sfc initial step i; end function f : int input a int; local b int; input c bool; st end")
	for unit, want := range of(of(0, 1, 2, 3, 5, 6, 7, 8, 9, 10, 17), of(0, 2, 3, 4), nil, nil, of(0, 2)) {
		got, err := direct.Inputs(p, unit)
		if !slices.Equal(got, want) || err != api.OK {
			t.Errorf("Inputs of unit %d: %v, %d; want %v", unit, got, err, want)
		}
	}
}

func TestValue(t *testing.T) {
	p := read(t, "program p input a bool; local n int; x int[2]; k b; d time; st n := n / 0; end block b input i int; output o int; y bool[2]; local z int; st end function f : int input n int; local m int := 5; st f := 100 / (n + m); end function g : time input a bool; d time; st if a then g := d + d; end_if; end")
	// The cells are a, n, x, k.i, k.o, k.y, k.z and d.
	cells := of(1, 7, 20, 30, 41, 42, 1, 0, 43, 500)
	before := slices.Clone(cells)
	for _, x := range []struct {
		source      string
		want, fault int
	}{
		{"5", 5, 0}, {"true", 1, 0}, {"t#9", 9, 0}, {"a", 1, 0}, {"not a", 0, 0}, {"n", 7, 0}, {"d", 500, 0}, {"x[0]", 20, 0}, {"x[n - 6]", 30, 0}, {"k.o", 42, 0}, {"n + x[1] * 2 - k.o", 25, 0}, {"d + t#1", 501, 0}, {"f(n)", 8, 0}, {"f(f(n)) + f(5)", 17, 0}, {"g(n = 7, d)", 1000, 0}, {"g(a and n = 8, t#5)", 0, 0}, {"max(n, k.o) mod 10", 2, 0},
		{"1 / (n - 7)", 0, api.FZero}, {"x[2]", 0, api.FIndex}, {"x[-n]", 0, api.FIndex}, {"f(-5)", 0, api.FZero}, {"x[n] + f(-5)", 0, api.FIndex}, {"f(-5) + x[n]", 0, api.FZero}, {"a or x[2] = 1", 0, api.FIndex},
	} {
		got, fault, err := direct.Value(p, 0, cells, expression(t, x.source))
		if got != x.want || fault != x.fault || err != api.OK || !slices.Equal(cells, before) {
			t.Errorf("Value of %s: %d, %d, %d; want %d, %d", x.source, got, fault, err, x.want, x.fault)
		}
	}
	if got, fault, err := direct.Value(p, 1, of(1, 2, 0, 1, 9), expression(t, "o * z + i")); got != 19 || fault != api.FNone || err != api.OK {
		t.Errorf("Value in a block: %d, %d, %d", got, fault, err)
	}
	for source, want := range map[string]api.Errno{"b": api.ErrName, "k.i": api.ErrName, "k.y": api.ErrName, "x": api.ErrKind, "k": api.ErrKind, "n + true": api.ErrKind, "f()": api.ErrCount, "f(a)": api.ErrKind, "p(n)": api.ErrKind, "none(1)": api.ErrName, "1 / 0 + q": api.ErrName} {
		if got, fault, err := direct.Value(p, 0, cells, expression(t, source)); got != 0 || fault != api.FNone || err != want {
			t.Errorf("Value of %s: %d, %d, %d; want %d", source, got, fault, err, want)
		}
	}
	for _, e := range of(api.Expr{}, api.Expr{Op: api.EConst, Kind: api.KInt, N: -1}, api.Expr{Op: api.EName, S: "if"}, api.Expr{Op: api.EAdd, Args: of(expression(t, "n"))}) {
		if got, fault, err := direct.Value(p, 0, cells, e); got != 0 || fault != api.FNone || err != api.ErrArg {
			t.Errorf("Value of %v: %d, %d, %d", e, got, fault, err)
		}
	}
}

func TestCall(t *testing.T) {
	p := read(t, "function f : int input a bool; n int; local m int := 5; input d time; st m := m + toint(d); if a then f := m / n; else f := f - g(m); end_if; end function g : int input x int; il ld x; mul x; st g; end function h : bool ld rung: true -> h; end program p st end function k : time input d time; fbd 1: sub(d, t#1); k := :1; end")
	for _, x := range []struct {
		unit        int
		args        []int
		want, fault int
	}{
		{0, of(1, 2, 9), 7, 0}, {0, of(0, 0, 1), -36, 0}, {0, of(1, 0, 9), 0, api.FZero}, {0, of(1, 1, math.MaxInt32), math.MinInt32 + 4, 0}, {1, of(-9), 81, 0}, {1, of(65536), 0, 0}, {2, nil, 1, 0}, {2, of[int](), 1, 0}, {4, of(math.MinInt32), math.MaxInt32, 0},
	} {
		for range 2 {
			if got, fault, err := direct.Call(p, x.unit, x.args); got != x.want || fault != x.fault || err != api.OK {
				t.Errorf("Call(%d, %v) = %d, %d, %d; want %d, %d", x.unit, x.args, got, fault, err, x.want, x.fault)
			}
		}
	}
	for _, x := range []struct {
		unit int
		args []int
	}{
		{3, nil}, {5, nil}, {-1, nil}, {math.MaxInt, nil}, {math.MinInt, nil}, {0, nil}, {0, of(1, 2)}, {0, of(1, 2, 3, 4)}, {2, of(0)}, {1, of[int]()}, {1, of(1, 1)}, {0, of(2, 2, 2)}, {0, of(-1, 2, 2)}, {0, of(1, 1<<31, 2)}, {0, of(1, 2, -1<<31-1)}, {1, of(math.MaxInt)},
	} {
		if got, fault, err := direct.Call(p, x.unit, x.args); got != 0 || fault != api.FNone || err != api.ErrArg {
			t.Errorf("Call(%d, %v) = %d, %d, %d", x.unit, x.args, got, fault, err)
		}
	}
}

func TestPower(t *testing.T) {
	p := read(t, "program p input a bool; b bool; n int; local q bool; ld rung: a -> q, jump x; rung: +a | b -> q; rung: [1 / n = 1] -> q, return; rung x: q & b -> -q; end block e input a bool; ld end program f st end function g : bool ld rung: true -> g; end")
	for _, x := range []struct {
		// The cells are a, b, n, q, and those of +a and -q.
		cells, want []int
	}{
		{of(1, 0, 0, 0, 0, 0), of(1, -1, -1, 0)}, {of(1, 1, 0, 0, 0, 0), of(1, -1, -1, 1)}, {of(0, 0, 1, 0, 0, 0), of(0, 0, 1, -1)}, {of(0, 1, 2, 0, 0, 0), of(0, 1, 0, 0)}, {of(0, 1, 0, 0, 0, 0), nil}, {of(0, 1, -1, 1, 1, 1), of(0, 1, 0, 0)},
	} {
		before := slices.Clone(x.cells)
		if got, err := direct.Power(p, 0, x.cells, 5); !slices.Equal(got, x.want) || err != api.OK || !slices.Equal(x.cells, before) {
			t.Errorf("Power(%v) = %v, %d; want %v", before, got, err, x.want)
		}
	}
	if got, err := direct.Power(p, 1, of(1), 5); len(got) != 0 || err != api.OK {
		t.Errorf("Power of no rungs: %v, %d", got, err)
	}
	// A ladder that is executed in a block does not matter, and the time does.
	p = read(t, "program p local k e; t ton; q bool; ld rung: box k(a).q -> q; rung: box t(in, pt := t#5).q -> q; end block e input a bool; output q bool; ld rung: /a -> q; rung: a -> q, return; rung: true -> q; end")
	cells := first(t, p, 0)
	for _, now := range of(10, 14, 15) {
		want := of(1, 0)
		if now == 15 {
			want = of(1, 1)
		}
		if got, err := direct.Power(p, 0, cells, now); !slices.Equal(got, want) || err != api.OK {
			t.Errorf("Power at %d: %v, %d; want %v", now, got, err, want)
		}
		cells, _, _ = direct.Scan(p, 0, cells, now)
	}
}

func TestActive(t *testing.T) {
	p := read(t, "program p input a bool; sfc step j; initial step i macro m; step z; macro m(v, u) step u; step v; from v to u when a; end; from i to j when a; end program e st end block b local n int; sfc initial step x; initial step y; end function f : int st end")
	for _, x := range []struct {
		unit  int
		cells []int
		want  string
	}{
		{0, of(0, 0, 0, 2, 0, 0, 0, 0, 0), "i_v"}, {0, of(0, 1, -1, 3, 4, 0, 0, 0, 0), "j i_u i_v z"}, {0, of(1, 0, 0, 0, 0, 1, 1, 1, 1), ""}, {0, of(0, 0, 1<<31-1, 0, -1<<31, 0, 0, 0, 0), "i_u z"}, {2, of(9, 1, 1, 0, 0), "x y"}, {2, of(9, 0, 1, 5, 0), "y"},
	} {
		if got, err := direct.Active(p, x.unit, x.cells); strings.Join(got, " ") != x.want || err != api.OK {
			t.Errorf("Active(%d, %v) = %q, %d; want %q", x.unit, x.cells, got, err, x.want)
		}
	}
}

// expectErrors checks which error all functions have that want a program or a block.
func expectErrors(t *testing.T, p api.Project, unit int, cells []int, now int, want api.Errno) {
	t.Helper()
	after, f1, e1 := direct.Scan(p, unit, cells, now)
	all, f2, e2 := direct.Run(p, unit, cells, nil, nil)
	value, f3, e3 := direct.Value(p, unit, cells, api.Expr{Op: api.EConst, Kind: api.KInt})
	power, e4 := direct.Power(p, unit, cells, now)
	active, e5 := direct.Active(p, unit, cells)
	if e1 != want || e2 != want || e3 != want || e4 != want || e5 != want || len(after)+len(all)+len(power)+len(active)+value+f1+f2+f3 != 0 {
		t.Errorf("unit %d, cells %v: Scan %v, %d, %d; Run %v, %d, %d; Value %d, %d, %d; Power %v, %d; Active %q, %d; want %d", unit, cells, after, f1, e1, all, f2, e2, value, f3, e3, power, e4, active, e5, want)
	}
}

func TestErrors(t *testing.T) {
	// The error of a project that is not sound comes first.
	for source, want := range map[string]api.Errno{"program p st x := 1; end": api.ErrName, "program p st end program p st end": api.ErrTwice, "program p input a bool; st a := true; end": api.ErrPlace, "program p local a bool; st a := 1; end": api.ErrKind, "program p local n int; st n := f(); end function f : int input x int; st end": api.ErrCount, "block p local a p; st end": api.ErrRing, "program p local y b; z b; st end block b local a int[32]; c int[32]; d int[32]; e int[32]; f int[32]; g int[32]; h int[32]; st end": api.ErrFull} {
		p := read(t, source)
		for _, unit := range of(-1, 0, 1, 9) {
			expectErrors(t, p, unit, of(7), -1, want)
			l, e1 := direct.Inputs(p, unit)
			n, fault, e2 := direct.Call(p, unit, nil)
			if e1 != want || e2 != want || len(l)+n+fault != 0 {
				t.Errorf("%s: Inputs %v, %d; Call %d, %d, %d; want %d", source, l, e1, n, fault, e2, want)
			}
		}
	}
	expectErrors(t, api.Project{Units: of(api.Unit{})}, 0, nil, 0, api.ErrArg)
	p := read(t, "program p input a bool; n int; local q bool; st end function f : int input x int; st end program c input a bool; sfc initial step i; end block b input a bool; output q bool; ld rung: +a -> q; end")
	for _, unit := range of(math.MinInt, -1, 4, math.MaxInt) {
		expectErrors(t, p, unit, nil, 0, api.ErrArg)
		if l, err := direct.Inputs(p, unit); len(l) != 0 || err != api.ErrArg {
			t.Errorf("Inputs of unit %d: %v, %d", unit, l, err)
		}
	}
	expectErrors(t, p, 1, of(0), 0, api.ErrArg)
	expectErrors(t, p, 1, nil, 0, api.ErrArg)
	for unit, cells := range map[int][][]int{
		0: of(nil, of(0, 0), of(0, 0, 0, 0), of(2, 0, 0), of(-1, 0, 0), of(0, 1<<31, 0), of(0, -1<<31-1, 0), of(0, 0, 2), make([]int, 1<<20)),
		2: of(nil, of(0), of(0, 0), of(0, 0, 0, 0), of(2, 0, 0), of(0, 1<<31, 0), of(0, 0, -1<<31-1)),
		3: of(nil, of(0, 0), of(0, 0, 2), of(0, 2, 0), of(0, 0, 0, 0), of(-1, 0, 0)),
	} {
		for _, l := range cells {
			expectErrors(t, p, unit, l, 0, api.ErrArg)
		}
	}
	for _, now := range of(math.MinInt, -1, 0, 1, api.MaxTime, api.MaxTime+1, math.MaxInt) {
		want := api.OK
		if now < 0 || now > api.MaxTime {
			want = api.ErrArg
		}
		after, f1, e1 := direct.Scan(p, 0, of(0, 0, 0), now)
		power, e2 := direct.Power(p, 3, of(1, 0, 0), now)
		if e1 != want || e2 != want || f1 != api.FNone || len(after) != 3 && want == api.OK || len(after)+len(power) != 0 && want != api.OK {
			t.Errorf("at %d: Scan %v, %d; Power %v, %d; want %d", now, after, e1, power, e2, want)
		}
	}
	// Bodies in other languages.
	for unit, lang := range map[int]int{0: api.InText, 2: api.InChart, 3: api.InLadder} {
		cells := first(t, p, unit)
		power, e1 := direct.Power(p, unit, cells, 0)
		active, e2 := direct.Active(p, unit, cells)
		if (e1 == api.OK) != (lang == api.InLadder) || e1 != api.OK && e1 != api.ErrArg || (e2 == api.OK) != (lang == api.InChart) || e2 != api.OK && e2 != api.ErrArg || e1 != api.OK && len(power) != 0 || e2 != api.OK && len(active) != 0 {
			t.Errorf("unit %d: Power %v, %d; Active %q, %d", unit, power, e1, active, e2)
		}
	}
}

func TestErrorsOfRun(t *testing.T) {
	p := read(t, "program p input a bool; c rs; local q bool; input n int; st q := a; end program e local m int; st m := m + 1; end")
	good := of(1, 0, 1, 0, 99)
	for _, x := range []struct {
		inputs [][]int
		times  []int
		want   api.Errno
	}{
		{nil, nil, api.OK}, {of(good), of(0), api.OK}, {of(good, good, good), of(5, 5, api.MaxTime), api.OK}, {of(of(0, 1, 1, 1, math.MinInt32)), of(7), api.OK},
		{of(good), nil, api.ErrArg}, {nil, of(0), api.ErrArg}, {of(good, good), of(0), api.ErrArg}, {of(good), of(0, 0), api.ErrArg}, {of(good, good), of(1, 0), api.ErrArg}, {of(good, good), of(-1, 0), api.ErrArg}, {of(good, good), of(0, api.MaxTime+1), api.ErrArg}, {of(good), of(math.MinInt), api.ErrArg},
		{of[[]int](nil), of(0), api.ErrArg}, {of(of(1, 0, 1, 0)), of(0), api.ErrArg}, {of(of(1, 0, 1, 0, 99, 0)), of(0), api.ErrArg}, {of(good, of(2, 0, 1, 0, 99)), of(0, 0), api.ErrArg}, {of(of(1, 0, -1, 0, 99)), of(0), api.ErrArg}, {of(of(1, 0, 1, 0, 1<<31)), of(0), api.ErrArg}, {of(good, good, of(1, 0, 1, 2, 99)), of(0, 0, 0), api.ErrArg},
	} {
		l, fault, err := direct.Run(p, 0, make([]int, 6), x.inputs, x.times)
		if err != x.want || fault != api.FNone || err != api.OK && len(l) != 0 || err == api.OK && len(l) != len(x.inputs) {
			t.Errorf("Run(%v, %v) = %v, %d, %d; want %d", x.inputs, x.times, l, fault, err, x.want)
		}
	}
	l, fault, err := direct.Run(p, 1, of(5), of[[]int](nil, nil, of[int]()), of(0, 0, 0))
	if !slices.EqualFunc(l, of(of(6), of(7), of(8)), slices.Equal[[]int]) || fault != api.FNone || err != api.OK {
		t.Errorf("Run without inputs: %v, %d, %d", l, fault, err)
	}
}
