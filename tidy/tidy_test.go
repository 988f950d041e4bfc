package tidy_test

import (
	"math"
	"math/rand"
	"slices"
	"strings"
	"testing"

	"winch/api"
	"winch/code"
	"winch/compile"
	"winch/internal/samples"
	"winch/machine"
	"winch/tidy"
)

// body returns the code of a program with 8 cells that has the instructions of a text.
func body(text string) api.Code {
	return samples.Assembled("unit p 1 8 0;" + text)
}

func text(c api.Code) string {
	s, _ := code.Text(c)
	return s
}

// expect checks what a function makes of a code.
func expect(t *testing.T, what string, run func(c api.Code) (api.Code, api.Errno), from, to string) {
	t.Helper()
	c, want := body(from), body(to)
	if code.Check(c) != api.OK || code.Check(want) != api.OK {
		t.Errorf("%s or %s is not valid", from, to)
	}
	if got, err := run(c); !code.Same(got, want) || err != api.OK {
		t.Errorf("%s of %s: %d\n%swant %s", what, from, err, text(got), to)
	}
}

func TestPrune(t *testing.T) {
	for from, to := range map[string]string{
		"return": "return", "return;return": "return", "jump 2;drop;return": "jump 1;return", "load 0;false 5;return;drop;jump 2;return": "load 0;false 3;return;return", "jump 0;return": "jump 0", "jump 3;return;jump 1;jump 2": "jump 3;return;jump 1;jump 2", "jump 2;jump 1;jump 4;return;return": "jump 1;jump 2;return", "now;drop;return;now;now;return": "now;drop;return", "jump 1;return": "jump 1;return", "return;jump 0": "return", "load 0;false 0;jump 4;return;load 1;false 0;return;return": "load 0;false 0;jump 3;load 1;false 0;return",
	} {
		expect(t, "Prune", tidy.Prune, from, to)
	}
}

func TestThread(t *testing.T) {
	for from, to := range map[string]string{
		"return": "return", "jump 1;return": "jump 1;return", "jump 1;jump 2;return": "jump 2;jump 2;return", "jump 2;return;jump 1": "jump 1;return;jump 1", "load 0;false 3;return;jump 5;return;jump 2": "load 0;false 2;return;jump 2;return;jump 2", "load 0;false 3;return;jump 0": "load 0;false 0;return;jump 0", "jump 3;jump 0;jump 1;jump 2": "jump 3;jump 0;jump 1;jump 2",
		// Rings: what leads to one leads to the first place of it that comes.
		"jump 0": "jump 0", "jump 1;jump 1": "jump 1;jump 1", "jump 1;jump 0": "jump 1;jump 0", "jump 1;jump 2;jump 3;jump 2": "jump 2;jump 2;jump 3;jump 2", "load 0;false 4;jump 3;jump 2;jump 5;jump 3": "load 0;false 3;jump 3;jump 2;jump 3;jump 3", "jump 3;return;jump 1;jump 4;jump 5;jump 6;jump 2": "jump 1;return;jump 1;jump 1;jump 1;jump 1;jump 1", "load 0;false 4;load 1;false 5;jump 6;jump 4;jump 6": "load 0;false 6;load 1;false 6;jump 6;jump 6;jump 6",
		// Places that can't be reached, too.
		"return;jump 2;jump 0": "return;jump 0;jump 0",
	} {
		expect(t, "Thread", tidy.Thread, from, to)
	}
}

func TestFold(t *testing.T) {
	for from, to := range map[string]string{
		"return": "return", "const 2;unary 7;store 0;return": "const -2;store 0;return", "const 2;unary 7;unary 7;unary 6;store 0;return": "const 1;store 0;return", "const -5;unary 6;store 0;return": "const 0;store 0;return", "const -2147483648;unary 7;store 0;return": "const -2147483648;store 0;return",
		"const 2;const 3;binary 18;store 0;return": "const -1;store 0;return", "const 2;const 3;const 4;binary 17;binary 19;store 0;return": "const 14;store 0;return", "const 2147483647;const 1;binary 17;unary 7;store 0;return": "const -2147483648;store 0;return", "load 0;const 2;const 3;binary 19;binary 17;store 0;return": "load 0;const 6;binary 17;store 0;return", "load 0;const 2;binary 17;store 0;return": "load 0;const 2;binary 17;store 0;return", "const 2;load 0;binary 17;store 0;return": "const 2;load 0;binary 17;store 0;return", "const 2;load 0;unary 7;binary 17;store 0;return": "const 2;load 0;unary 7;binary 17;store 0;return",
		"const 6;const 3;binary 10;store 0;return": "const 0;store 0;return", "const 7;const -3;binary 10;store 0;return": "const 1;store 0;return", "const 6;const 2;binary 8;store 0;return": "const 0;store 0;return", "const 5;const 3;binary 9;store 0;return": "const 0;store 0;return", "const 7;const 2;binary 21;store 0;return": "const 1;store 0;return", "const 7;const 9;binary 13;store 0;return": "const 1;store 0;return", "const 2;const 5;binary 11;store 0;return": "const 0;store 0;return",
		// Faults remain, with what is behind them.
		"const 7;const 0;binary 20;store 0;return": "const 7;const 0;binary 20;store 0;return", "const 7;const 1;const 1;binary 18;binary 21;store 0;return": "const 7;const 0;binary 21;store 0;return", "const 1;const 7;const 0;binary 20;binary 17;store 0;return": "const 1;const 7;const 0;binary 20;binary 17;store 0;return",
		// Jumps between, and to the first place.
		"const 5;jump 2;unary 7;load 0;false 2;store 0;return": "const 5;jump 2;unary 7;load 0;false 2;store 0;return", "const 2;unary 7;drop;load 0;false 0;return": "const -2;drop;load 0;false 0;return", "load 0;false 5;const 2;const 3;jump 7;const 1;const 2;binary 17;store 0;return": "load 0;false 5;const 2;const 3;jump 7;const 1;const 2;binary 17;store 0;return", "const 5;const 2;load 0;false 5;unary 7;binary 17;store 0;return": "const 5;const 2;load 0;false 5;unary 7;binary 17;store 0;return",
		"const 9;jump 3;const 9;const 2;binary 17;store 0;return": "const 9;jump 3;const 9;const 2;binary 17;store 0;return", "jump 4;unary 7;store 0;return;const 5;jump 1": "jump 4;unary 7;store 0;return;const 5;jump 1",
		// Jumps that lead elsewhere lead to the same instructions.
		"const 1;unary 7;store 0;load 1;false 7;const 3;store 2;const 4;unary 7;store 3;jump 3": "const -1;store 0;load 1;false 6;const 3;store 2;const -4;store 3;jump 2",
		// What can't be reached.
		"return;const 2;unary 7;const 3;const 4;binary 17;return": "return;const -2;const 7;return", "const 2;unary 7;drop;return;jump 1": "const -2;drop;return;jump 1", "return;binary 17;unary 6;const 2;binary 17;return": "return;binary 17;unary 6;const 2;binary 17;return",
	} {
		expect(t, "Fold", tidy.Fold, from, to)
	}
}

// TestTidy has codes of which something is left out, by one pass after the other.
func TestTidy(t *testing.T) {
	for from, to := range map[string]string{
		"return": "return", "jump 1;return": "return", "jump 1;jump 2;jump 3;return": "return", "jump 2;return;jump 1": "return", "jump 0": "jump 0", "jump 1;jump 0": "jump 0", "jump 1;jump 2;jump 0": "jump 0", "jump 2;return;jump 3;jump 2": "jump 0",
		"load 0;pick 0;drop;store 1;return": "load 0;store 1;return", "load 0;pick 0;pick 1;drop;drop;store 1;return": "load 0;store 1;return", "load 0;pick 0;jump 3;drop;store 1;return": "load 0;store 1;return", "const 2;unary 7;store 0;return;return": "const -2;store 0;return", "const 1;jump 2;unary 6;store 0;return": "const 0;store 0;return", "load 0;false 2;return": "load 0;false 2;return",
		"load 0;false 3;return;jump 4;return": "load 0;false 3;return;return", "load 0;drop;return": "load 0;drop;return", "const 1;const 2;binary 17;store 0;return": "const 3;store 0;return", "load 0;pick 0;false 4;jump 5;jump 5;drop;return": "load 0;pick 0;false 3;drop;return", "load 0;false 2;jump 3;return": "load 0;false 2;return",
		"load 0;pick 0;load 1;false 5;jump 5;drop;drop;return": "load 0;pick 0;load 1;false 4;drop;drop;return",
	} {
		expect(t, "Tidy", tidy.Tidy, from, to)
		if from != to {
			if is, err := tidy.IsTidy(body(from)); is != (from == "const 1;const 2;binary 17;store 0;return") || err != api.OK {
				t.Errorf("IsTidy of %s: %v, %d", from, is, err)
			}
		}
		if is, err := tidy.IsTidy(body(to)); !is || err != api.OK {
			t.Errorf("IsTidy of %s: %v, %d", to, is, err)
		}
	}
}

func TestIsTidy(t *testing.T) {
	for text, want := range map[string]bool{
		"return": true, "return;return": false, "jump 1;return": false, "jump 2;return;jump 1": false, "jump 0": true, "jump 1;jump 0": false, "load 0;false 3;jump 0;jump 3": true, "load 0;false 3;jump 0;jump 4;jump 3": false, "load 0;false 4;return;jump 5;jump 3;jump 4": true, "load 0;false 3;return;jump 2": false, "load 0;false 3;jump 3;return": false, "load 0;false 2;return": true, "load 0;false 3;jump 3;jump 3": false, "load 0;false 4;load 0;false 4;jump 4": true, "load 0;false 3;return;load 0;false 2;jump 2": true,
		"load 0;pick 0;drop;store 0;return": false, "load 0;load 1;false 5;pick 0;drop;drop;return": false, "load 0;load 1;load 1;false 6;drop;pick 0;drop;drop;return": true, "const 1;unary 6;store 0;return": false, "const 1;unary 6;unary 6;store 0;return": false, "const 1;load 0;false 4;jump 5;unary 6;store 0;return": true, "load 1;const 0;load 0;false 8;unary 6;store 1;drop;return;unary 6;store 2;store 3;return": true,
		// A jump leads to the second place.
		"const 1;unary 6;load 0;false 1;store 0;return": true, "load 3;pick 0;drop;load 0;false 7;load 1;jump 2;drop;return": true, "const 1;unary 6;drop;load 0;false 0;return": false, "const 1;const 2;binary 17;store 0;return": true, "load 0;pick 0;store 1;drop;return": true, "load 0;drop;return": true,
	} {
		c := body(text)
		if code.Check(c) != api.OK {
			t.Errorf("%s is not valid", text)
			continue
		}
		if is, err := tidy.IsTidy(c); is != want || err != api.OK || is != (wrong(c.Units[0].Code)&^binaryConst == 0) {
			t.Errorf("%s: %v, %d; want %v", text, is, err, want)
		}
		// All units are tidy, or the code is not.
		both := samples.Assembled("unit p 1 8 0;" + text + ";unit q 1 8 0;return;unit r 1 8 0;jump 1;return")
		if is, err := tidy.IsTidy(both); is || err != api.OK {
			t.Errorf("%s: %v, %d", text, is, err)
		}
	}
}

func TestDead(t *testing.T) {
	for _, x := range []struct {
		text string
		want []int
	}{
		{"return", nil}, {"const 1;store 0;return", nil}, {"const 1;store 0;const 1;store 0;return", of(1)}, {"const 1;store 0;const 1;store 1;return", nil}, {"const 1;store 0;load 0;store 0;return", nil}, {"const 1;store 0;load 1;store 0;return", of(1)}, {"const 1;store 0;const 1;store 0;const 1;store 0;return", of(1, 3)},
		// Other instructions that read, or do not.
		{"const 1;store 1;const 0;loadx 0 2;drop;const 2;store 1;return", nil}, {"const 1;store 1;const 0;loadx 0 1;drop;const 2;store 1;return", of(1)}, {"const 1;store 1;const 0;loadx 2 3;drop;const 2;store 1;return", of(1)}, {"const 1;store 1;const 0;const 0;storex 0 2;const 2;store 1;return", of(1)}, {"const 1;store 0;const 0;const 0;storex 0 1;return", nil}, {"const 1;store 2;part 4 0;const 2;store 2;return", nil}, {"const 1;store 3;part 4 0;const 2;store 3;return", of(1)}, {"const 1;store 2;part 4 3;const 2;store 2;return", of(1)}, {"const 1;store 3;part 4 3;const 2;store 3;return", nil},
		{"const 1;store 5;part 4 3;const 2;store 5;return", nil}, {"const 1;store 6;part 4 3;const 2;store 6;return", of(1)}, {"const 1;store 4;unit 0 3;const 2;store 4;return", nil}, {"const 1;store 5;unit 0 3;const 2;store 5;return", of(1)}, {"const 1;store 2;unit 0 3;const 2;store 2;return", of(1)},
		// Ways: all of them write, one reads, one ends.
		{"const 1;store 0;load 1;false 6;const 2;store 0;const 3;store 0;return", of(1, 5)}, {"const 1;store 0;load 1;false 7;const 2;store 0;return;const 3;store 0;return", of(1)}, {"const 1;store 0;load 1;false 6;const 2;store 0;return", nil}, {"const 1;store 0;load 1;false 7;const 2;store 0;return;load 0;store 0;return", nil}, {"const 1;store 0;load 1;false 0;const 2;store 0;return", of(1)}, {"const 1;store 0;load 1;false 0;return", nil}, {"const 1;store 0;load 0;false 0;const 2;store 0;return", nil},
		// Ways that never end.
		{"const 1;store 0;jump 0", of(1)}, {"const 1;store 0;jump 2", of(1)}, {"const 1;store 0;load 0;drop;jump 2", nil}, {"const 1;store 0;load 1;false 2;const 2;store 0;return", of(1)}, {"const 1;store 0;load 1;false 4;jump 4", of(1)},
		// Places that can't be reached.
		{"return;const 1;store 0;const 1;store 0;return", nil}, {"const 1;store 0;jump 4;load 0;const 2;store 0;return", of(1)}, {"const 1;store 0;jump 5;load 0;drop;const 2;store 0;return", of(1)},
		// Far cells, and faults on the way.
		{"const 1;store 7;const 1;load 6;binary 20;store 7;return", of(1)}, {"const 1;store 7;load 6;loadx 0 7;store 7;return", of(1)}, {"const 1;store 7;load 6;loadx 0 8;store 7;return", nil},
	} {
		c := samples.Assembled("unit b 2 2 0;return;unit p 1 8 0;" + x.text)
		if code.Check(c) != api.OK {
			t.Errorf("%s is not valid", x.text)
		}
		if got, err := tidy.Dead(c, 1); !slices.Equal(got, x.want) || err != api.OK || !slices.Equal(got, dead(c, 1)) {
			t.Errorf("%s: %v, %d; want %v, and %v", x.text, got, err, x.want, dead(c, 1))
		}
	}
	// As many cells as there can be.
	c := samples.Assembled("unit p 1 400 0;const 1;store 399;const 1;store 398;const 1;store 0;load 398;store 399;const 5;store 64;const 5;store 63;const 5;store 64;return")
	if got, err := tidy.Dead(c, 0); !slices.Equal(got, of(1, 9)) || err != api.OK {
		t.Errorf("%v, %d", got, err)
	}
}

// TestExamples has the examples of the chapter.
func TestExamples(t *testing.T) {
	expect(t, "Tidy", tidy.Tidy, "jump 1;return", "return")
	expect(t, "Fold", tidy.Fold, "const 2;unary 7;store 0;return", "const -2;store 0;return")
	if got, err := tidy.Dead(body("load 1;store 0;const 1;store 0;return"), 0); !slices.Equal(got, of(1)) || err != api.OK {
		t.Errorf("%v, %d", got, err)
	}
}

// tester holds what is made of random codes against them.
type tester struct {
	*samples.Maker
	changed map[string]int
	scans   int
}

func newTester(seed int64) *tester {
	return &tester{Maker: samples.New(rand.New(rand.NewSource(seed)).Intn), changed: map[string]int{}}
}

// made returns what a function makes of a code, after it has been checked that it is valid, has the same units, and does the same.
func (r *tester) made(t *testing.T, what string, run func(c api.Code) (api.Code, api.Errno), c api.Code) api.Code {
	t.Helper()
	before := text(c)
	d, err := run(c)
	if err != api.OK || code.Check(d) != api.OK || text(c) != before || len(d.Units) != len(c.Units) {
		t.Fatalf("%s of\n%s: %d, %d\n%s", what, before, err, code.Check(d), text(d))
	}
	for i, u := range c.Units {
		v := d.Units[i]
		if u.Name != v.Name || u.Kind != v.Kind || u.Cells != v.Cells || u.Args != v.Args || len(v.Code) > len(u.Code) {
			t.Fatalf("%s of\n%sis\n%s", what, before, text(d))
		}
		if len(u.Code) > 0 && &u.Code[0] == &v.Code[0] {
			t.Fatalf("%s shares memory", what)
		}
		if !slices.Equal(u.Code, v.Code) {
			r.changed[what]++
		}
		for range 3 {
			r.compare(t, what, c, d, i)
		}
	}
	return d
}

// compare compares a scan of a unit, or a call, by two codes.
func (r *tester) compare(t *testing.T, what string, c, d api.Code, unit int) {
	t.Helper()
	u := c.Units[unit]
	cells := make([]int, u.Cells)
	for i := range cells {
		cells[i] = r.Value(api.KInt)
	}
	now := r.Choose(100)
	var want, got []int
	var f1, f2 int
	if u.Kind == api.UFunction {
		args := cells[:u.Args]
		n, fault, _ := machine.Call(c, unit, args)
		m, found, _ := machine.Call(d, unit, args)
		want, f1, got, f2 = of(n), fault, of(m), found
	} else {
		want, f1, _ = machine.Scan(c, unit, cells, now)
		got, f2, _ = machine.Scan(d, unit, cells, now)
	}
	r.scans++
	if f1 == api.FFuel || f2 == api.FFuel {
		return
	}
	if f1 != f2 || !slices.Equal(want, got) {
		t.Fatalf("%s of\n%sis\n%sunit %d with %v at %d: %v, %d and %v, %d", what, text(c), text(d), unit, cells, now, want, f1, got, f2)
	}
}

// expectNone checks that nothing of some kinds is wrong with any unit.
func expectNone(t *testing.T, what string, c, d api.Code, kinds int) {
	t.Helper()
	for _, u := range d.Units {
		if wrong(u.Code)&kinds != 0 {
			t.Fatalf("%s of\n%sis\n%s", what, text(c), text(d))
		}
	}
}

// passes makes everything of a code.
func (r *tester) passes(t *testing.T, c api.Code) {
	t.Helper()
	d := r.made(t, "Prune", tidy.Prune, c)
	expectNone(t, "Prune", c, d, notReached)
	for i, u := range c.Units {
		if is := reached(u.Code); len(d.Units[i].Code) != len(is) || !isPart(d.Units[i].Code, u.Code) {
			t.Fatalf("Prune of\n%sis\n%s", text(c), text(d))
		}
	}
	d = r.made(t, "Thread", tidy.Thread, c)
	expectNone(t, "Thread", c, d, ledOn)
	for i, u := range c.Units {
		if len(d.Units[i].Code) != len(u.Code) || !isPart(d.Units[i].Code, u.Code) {
			t.Fatalf("Thread of\n%sis\n%s", text(c), text(d))
		}
	}
	d = r.made(t, "Fold", tidy.Fold, c)
	expectNone(t, "Fold", c, d, unaryConst|binaryConst)
	d = r.made(t, "Tidy", tidy.Tidy, c)
	expectNone(t, "Tidy", c, d, notReached|ledOn|toNext|picked|unaryConst)
	again := r.made(t, "again", tidy.Tidy, d)
	for i, u := range d.Units {
		if len(again.Units[i].Code) != len(u.Code) {
			t.Fatalf("Tidy again of\n%sis\n%s", text(d), text(again))
		}
	}
	r.others(t, c, d)
}

// others checks IsTidy and Dead, which change nothing.
func (r *tester) others(t *testing.T, c, tidied api.Code) {
	t.Helper()
	isTidy := true
	for unit, u := range c.Units {
		isTidy = isTidy && wrong(u.Code)&^binaryConst == 0
		got, err := tidy.Dead(c, unit)
		if want := dead(c, unit); !slices.Equal(got, want) || err != api.OK {
			t.Fatalf("%sunit %d: dead %v, %d; want %v", text(c), unit, got, err, want)
		}
		r.changed["Dead"] += len(got)
	}
	is, e1 := tidy.IsTidy(c)
	then, e2 := tidy.IsTidy(tidied)
	if is != isTidy || !then || e1 != api.OK || e2 != api.OK {
		t.Fatalf("%sIsTidy: %v, %d; want %v; then %v, %d", text(c), is, e1, isTidy, then, e2)
	}
}

// TestRandom has random codes.
func TestRandom(t *testing.T) {
	t.Parallel()
	r := newTester(1)
	for range 1500 {
		r.Size = 1 + r.Choose(8)
		r.passes(t, r.Code())
	}
	t.Logf("%d scans, %v", r.scans, r.changed)
	for what, least := range map[string]int{"Prune": 500, "Thread": 200, "Fold": 100, "Tidy": 1000, "Dead": 30} {
		if r.changed[what] < least {
			t.Errorf("%s: %v", what, r.changed)
		}
	}
}

// TestMessy has random codes that consist of jumps and constants, above all: there is always one value on the stack.
func TestMessy(t *testing.T) {
	t.Parallel()
	r := newTester(2)
	for range 1200 {
		l := of("load 0")
		count := 3 + r.Choose(25)
		// The last instructions are those that leave nothing on the stack.
		for range count {
			l = append(l, of("", "jump #", "jump #", "unary 6", "unary 7", "pick 0", "drop", "store 1", "load 0", "const 5", "const 0", "const 3", "binary 17", "binary 8")[r.Choose(14)])
		}
		c := r.messy(l)
		if code.Check(c) == api.OK {
			r.passes(t, c)
		}
	}
	t.Logf("%d scans, %v", r.scans, r.changed)
	for what, least := range map[string]int{"Prune": 500, "Thread": 100, "Fold": 100, "Tidy": 500, "Dead": 50} {
		if r.changed[what] < least {
			t.Errorf("%s: %v", what, r.changed)
		}
	}
}

// messy returns the code of a text that is made such that each instruction finds one value on the stack, and leaves one: # is a random
// place where this is so.
func (r *tester) messy(l []string) api.Code {
	var all []string
	var starts []int
	for _, x := range l {
		if x == "" {
			continue
		}
		starts = append(starts, len(all))
		switch strings.Fields(x)[0] {
		case "pick", "load", "const":
			all = append(all, x, of("binary 18", "drop", "binary 10", "store 1")[r.Choose(4)])
		case "drop", "store":
			all = append(all, x, of("load 1", "const 1", "load 2", "const -3")[r.Choose(4)])
		case "binary":
			all = append(all, of("const 7", "const 2", "load 2")[r.Choose(3)], x)
		default:
			all = append(all, x)
		}
	}
	starts = append(starts, len(all))
	all = append(all, "store 0", "return")
	// The first instruction is the only one that finds nothing.
	all = append(of("load 0", "unary 7"), all[2:]...)
	c := body(strings.ReplaceAll(strings.Join(all, ";"), "#", "0"))
	for i, x := range c.Units[0].Code {
		if x.Op == api.IJump {
			c.Units[0].Code[i].A = starts[1+r.Choose(len(starts)-1)]
			if r.Choose(3) == 0 && i > 2 {
				c.Units[0].Code[i-1] = api.Instr{Op: api.IFalse, A: starts[1+r.Choose(len(starts)-1)]}
			}
		}
	}
	return c
}

// TestCompiled has the codes of random projects.
func TestCompiled(t *testing.T) {
	t.Parallel()
	r := newTester(3)
	for range 200 {
		p, _ := r.Project()
		if c, err := compile.Compile(p); err == api.OK {
			r.passes(t, c)
		}
	}
	t.Logf("%d scans, %v", r.scans, r.changed)
	if r.changed["Tidy"] < 100 || r.scans < 5000 {
		t.Errorf("%d scans, %v", r.scans, r.changed)
	}
}

// TestLarge has units of as many instructions as there can be.
func TestLarge(t *testing.T) {
	t.Parallel()
	r := newTester(4)
	chain, back, all, picks := make([]api.Instr, api.MaxCode), make([]api.Instr, api.MaxCode), make([]api.Instr, api.MaxCode), make([]api.Instr, api.MaxCode)
	for i := range api.MaxCode {
		chain[i] = api.Instr{Op: api.IJump, A: min(i+1, api.MaxCode-1)}
		back[i] = api.Instr{Op: api.IJump, A: max(i-1, 1)}
		all[i] = of(api.Instr{Op: api.IConst, A: i}, api.Instr{Op: api.IUnary, A: api.ENeg}, api.Instr{Op: api.IStore})[i%3]
		picks[i] = of(api.Instr{Op: api.ILoad}, api.Instr{Op: api.IPick}, api.Instr{Op: api.IDrop}, api.Instr{Op: api.IStore})[i%4]
	}
	back[0].A = api.MaxCode - 1
	end := of(api.Instr{Op: api.INow}, api.Instr{Op: api.IDrop}, api.Instr{Op: api.IReturn})
	copy(all[api.MaxCode-3:], end)
	copy(picks[api.MaxCode-4:], append(end[:2:2], api.Instr{Op: api.IJump, A: api.MaxCode - 1}, end[2]))
	for _, l := range of(chain, back, all, picks) {
		c := api.Code{Units: of(api.UnitCode{Name: "p", Kind: api.UProgram, Cells: 400, Code: l})}
		if code.Check(c) != api.OK {
			t.Fatalf("%v is not valid", l[:5])
		}
		r.passes(t, c)
	}
}

func TestErrors(t *testing.T) {
	for _, c := range of(api.Code{}, api.Code{Units: make([]api.UnitCode, 1)}, body("drop;return"), body("load 8;drop;return"), body("load 0"), samples.Assembled("unit p 1 2 0;return;unit p 1 2 0;return")) {
		for i, run := range of(tidy.Tidy, tidy.Prune, tidy.Thread, tidy.Fold) {
			if d, err := run(c); len(d.Units) > 0 || err != api.ErrCode {
				t.Errorf("%d: %v, %d", i, d, err)
			}
		}
		if is, err := tidy.IsTidy(c); is || err != api.ErrCode {
			t.Errorf("IsTidy: %v, %d", is, err)
		}
		for _, unit := range of(0, -1, 5) {
			if l, err := tidy.Dead(c, unit); len(l) > 0 || err != api.ErrCode {
				t.Errorf("Dead: %v, %d", l, err)
			}
		}
	}
	c := samples.Assembled("unit p 1 2 0;const 1;store 0;const 1;store 0;return;unit q 1 2 0;return")
	for unit, want := range map[int]api.Errno{0: api.OK, 1: api.OK, 2: api.ErrArg, -1: api.ErrArg, math.MaxInt: api.ErrArg, math.MinInt: api.ErrArg} {
		l, err := tidy.Dead(c, unit)
		if err != want || len(l) > 0 != (unit == 0) {
			t.Errorf("Dead of unit %d: %v, %d", unit, l, err)
		}
	}
}
