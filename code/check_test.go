package code_test

import (
	"fmt"
	"math"
	"math/rand"
	"reflect"
	"slices"
	"strings"
	"testing"

	"winch/api"
	"winch/code"
	"winch/internal/samples"
)

func of[T any](l ...T) []T { return l }

// ops are the names of all Ops, in their order from 1 on.
func ops() []string {
	return strings.Fields("const load store loadx storex unary binary call std part unit jump false return pick put drop now")
}

// assembled returns the code with a text that is written with ";" for line feeds, and without zeros at the ends of instructions.
func assembled(text string) api.Code {
	return samples.Assembled(text)
}

// repeated returns a text several times, with ";" between.
func repeated(text string, n int) string {
	return strings.TrimSuffix(strings.Repeat(text+";", n), ";")
}

// body returns the code of a program with some cells that has the instructions of a text.
func body(cells int, text string) api.Code {
	return assembled(fmt.Sprintf("unit p 1 %d 0;%s", cells, text))
}

func expectCheck(t *testing.T, what string, c api.Code, isValid bool) {
	t.Helper()
	if err := code.Check(c); (err == api.OK) != isValid || !isValid && err != api.ErrCode {
		t.Errorf("%.200s: %d; want valid: %v", what, err, isValid)
	}
}

// TestInstructions has instructions of a unit with 10 cells, behind a function f of 2 arguments, a block b of 4 cells, and a program q.
func TestInstructions(t *testing.T) {
	before := "unit f 3 5 2;return;unit b 2 4 0;return;unit q 1 2 0;return;"
	for _, x := range []struct {
		op string
		// pops and pushes is what is on the stack.
		pops, pushes int
		good, bad    string
	}{
		{"const", 0, 1, "0, 5, -5, 2147483647, -2147483648", "2147483648, -2147483649, 9223372036854775807, -9223372036854775808, 0 1, 0 -1"},
		{"load", 0, 1, "0, 9", "-1, 10, 9223372036854775807, 0 1, 0 -1"}, {"store", 1, 0, "0, 9", "-1, 10, -9223372036854775808, 0 1, 9 -1"},
		{"loadx", 1, 1, "0 1, 0 10, 9 1, 4 6, 4 5", "0, 0 11, 9 0, 9 2, 10 1, 10 0, -1 1, -1 5, 4 7, 0 -1, 5 -3, 1 9223372036854775807, 9223372036854775807 9223372036854775807"}, {"storex", 2, 0, "0 1, 0 10, 9 1, 4 6, 4 5", "0, 0 11, 9 0, 9 2, 10 1, 10 0, -1 1, -1 5, 4 7, 0 -1, 1 9223372036854775807, 9223372036854775807 2"},
		{"unary", 1, 1, "6, 7", "5, 8, 0, -6, 6 1, 17"}, {"binary", 2, 1, "8, 9, 10, 11, 12, 13, 14, 15, 16, 17, 18, 19, 20, 21", "7, 22, 6, 5, 0, -8, 8 1, 21 -1"},
		{"call", 2, 1, "0", "1, 2, 3, 4, -1, 0 1"}, {"std", 1, 1, "0, 5, 6, 7", "-1, 8, 0 1, 7 -1"}, {"std", 2, 1, "2, 3", "9"}, {"std", 3, 1, "1, 4", "-2"},
		{"part", 0, 0, "0, 0 4, 1 4, 6 4, 7 4, 8 4, 2 7, 3 7, 4 7, 5 7", "0 5, 1 5, 6 5, 7 5, 8 5, 2 8, 3 8, 4 8, 5 8, -1, 9, 0 -1, 0 9223372036854775807, 0 -9223372036854775808"},
		{"unit", 0, 0, "1, 1 6", "0, 2, 3, 4, -1, 1 7, 1 -1, 1 9223372036854775807"},
		{"now", 0, 1, "0", "1, 0 1, -1"}, {"drop", 1, 0, "0", "1, 0 1, 0 -1"}, {"pick", 3, 4, "0, 1, 2", "3, -1, 60, 61, 0 1"}, {"put", 3, 2, "0, 1", "2, 3, -1, 60, 61, 0 1"},
		{"none", 0, 0, "", "0"},
	} {
		for _, l := range of(x.good, x.bad) {
			for _, numbers := range strings.Split(l, ", ") {
				if numbers == "" {
					continue
				}
				text := before + "unit p 1 10 0;" + strings.Repeat("now;", x.pops) + x.op + " " + numbers + ";" + strings.Repeat("drop;", x.pushes) + "return;unit g 3 3 1;return"
				expectCheck(t, text, assembled(text), l == x.good)
			}
		}
		// What is found on the stack, and what is left there.
		for _, numbers := range strings.Split(x.good, ", ") {
			for pops := range 5 {
				for pushes := range 6 {
					isEnough := pops >= x.pops
					if x.op == "pick" || x.op == "put" {
						n := 0
						fmt.Sscan(numbers, &n)
						isEnough = pops > n && x.op == "pick" || pops > n+1
					}
					text := before + "unit p 1 10 0;" + strings.Repeat("const 1;", pops) + x.op + " " + numbers + ";" + strings.Repeat("drop;", pushes) + "return"
					if x.good != "" {
						expectCheck(t, text, assembled(text), isEnough && pops-pushes == x.pops-x.pushes)
					}
				}
			}
		}
	}
}

// TestUnits has the heads of units, and what they refer to.
func TestUnits(t *testing.T) {
	expectCheck(t, "no units", api.Code{}, false)
	for text, isValid := range map[string]bool{
		"unit p 1 0 0;return": true, "unit p 2 0 0;return": true, "unit p 3 1 0;return": true, "unit p 0 0 0;return": false, "unit p 4 0 0;return": false, "unit p -1 0 0;return": false, "unit p 1 0 0": false,
		"unit p 1 400 0;return": true, "unit p 1 401 0;return": false, "unit p 1 -1 0;return": false, "unit p 1 5 1;return": false, "unit p 2 5 1;return": false, "unit p 1 5 -1;return": false,
		"unit p 3 0 0;return": false, "unit p 3 2 1;return": true, "unit p 3 1 1;return": false, "unit p 3 400 32;return": true, "unit p 3 400 33;return": false, "unit p 3 33 32;return": true, "unit p 3 32 32;return": false, "unit p 3 401 1;return": false, "unit p 3 5 -1;return": false, "unit p 3 5 9223372036854775807;return": false,
		"unit pp 1 0 0;return": true, "unit P 1 0 0;return": false, "unit 1 1 0 0;return": false, "unit if 1 0 0;return": false, "unit abcdefghijkl 1 0 0;return": true, "unit abcdefghijklm 1 0 0;return": false, "unit a-b 1 0 0;return": false, "unit ton 1 0 0;return": true,
		"unit p 1 0 0;return;unit q 1 0 0;return": true, "unit p 1 0 0;return;unit p 1 0 0;return": false, "unit p 1 0 0;return;unit q 1 0 0;return;unit p 2 0 0;return": false, "unit p 1 0 0;return;unit q 1 0 0": false,
		// What is executed stands before.
		"unit p 1 1 0;call 0;return": false, "unit p 1 1 0;call 1;drop;return;unit f 3 1 0;return": false, "unit f 3 1 0;call 0;drop;return": false, "unit b 2 1 0;unit 0 0;return": false, "unit p 1 1 0;unit 1 0;return;unit b 2 1 0;return": false, "unit b 2 1 0;return;unit p 1 1 0;unit 0 0;return": true, "unit b 2 2 0;return;unit p 1 1 0;unit 0 0;return": false, "unit b 2 0 0;return;unit p 1 0 0;unit 0 0;return": true, "unit b 1 1 0;return;unit p 1 1 0;unit 0 0;return": false,
		"unit f 3 1 0;return;unit p 1 1 0;call 0;drop;return": true, "unit f 3 1 0;return;unit p 2 1 0;unit 0 0;return": false, "unit f 2 1 0;return;unit p 1 1 0;call 0;drop;return": false, "unit f 3 1 0;return;unit g 3 1 0;call 0;store 0;return": true,
		// A unit is wrong, if the one before it is not.
		"unit p 1 0 0;return;unit q 1 0 0;drop;return": false, "unit p 1 0 0;drop;return;unit q 1 0 0;return": false,
	} {
		expectCheck(t, text, assembled(text), isValid)
	}
	many := func(n int) api.Code {
		var c api.Code
		for i := range n {
			c.Units = append(c.Units, api.UnitCode{Name: fmt.Sprint("u", i), Kind: api.UProgram, Code: of(api.Instr{Op: api.IReturn})})
		}
		return c
	}
	expectCheck(t, "16 units", many(16), true)
	expectCheck(t, "17 units", many(17), false)
	empty := many(1)
	empty.Units[0].Name = ""
	expectCheck(t, "no name", empty, false)
	expectCheck(t, "3000 instructions", body(1, repeated("const 1;drop", 1499)+";jump 4;return"), true)
	expectCheck(t, "3001 instructions", body(1, repeated("const 1;drop", 1500)+";return"), false)
	for _, op := range of(0, -1, 19, math.MaxInt, math.MinInt) {
		c := many(1)
		c.Units[0].Code = of(api.Instr{Op: op}, api.Instr{Op: api.IReturn})
		expectCheck(t, fmt.Sprint("op ", op), c, false)
	}
}

// TestDepths has the flow of units with 2 cells.
func TestDepths(t *testing.T) {
	for text, isValid := range map[string]bool{
		"load 0;unary 6;store 1;return": true, "load 0;unary 6;return": false, "load 0;unary 6;store 1": false, "load 0;unary 6;store 1;drop": false, "store 1;return": false, "jump 0": true, "return": true, "false 0": false, "load 0;false 0": false, "load 0;false 0;return": true, "now": false,
		"jump 1;return": true, "jump 2;return": false, "jump -1;return": false, "jump 0 1;return": false, "jump 9223372036854775807;return": false, "load 0;false 3;return;return": true, "load 0;false 4;return;return": false, "load 0;false -1;return": false, "load 0;false 2 1;return": false, "return 1": false, "return 0 1": false, "return;return": true,
		// What can't be reached has no depth, but must be right otherwise.
		"return;drop;return": true, "return;load 0;return": true, "return;load 5;return": false, "jump 3;binary 8;store 1;return": true, "return;jump 0": true, "jump 2;jump 1;return": true, "return;drop 1;return": false, "return;jump 9;return": false, "jump 2;drop;return;drop": false,
		// Ways with the same depth, and with others.
		"load 0;false 4;const 1;jump 5;const 2;store 1;return": true, "load 0;false 4;const 1;jump 4;const 2;store 1;return": false, "load 0;false 3;const 1;return": false, "load 0;jump 0": false, "load 0;drop;jump 0": true, "load 0;false 0;jump 0": true, "const 1;const 2;false 1;drop;return": true, "const 1;const 2;false 0;drop;return": false, "const 1;jump 3;return;drop;jump 2": true, "load 0;load 0;false 5;drop;return;drop;return": true, "load 0;load 0;false 5;drop;return;return": false, "const 1;load 0;false 1;return": false,
		// A loop that is entered in its middle.
		"const 0;jump 3;const 1;load 0;false 2;drop;return": false, "const 0;jump 4;drop;const 1;load 0;false 2;drop;return": true,
		repeated("now", 60) + ";" + repeated("drop", 60) + ";return": true, repeated("now", 61) + ";" + repeated("drop", 61) + ";return": false, repeated("now", 60) + ";jump 60": true, repeated("now", 61) + ";jump 61": false,
		repeated("now", 60) + ";pick 59;" + repeated("drop", 61) + ";return": false, repeated("now", 59) + ";pick 58;" + repeated("drop", 60) + ";return": true, repeated("now", 59) + ";pick 59;" + repeated("drop", 60) + ";return": false, repeated("now", 60) + ";put 58;" + repeated("drop", 59) + ";return": true, repeated("now", 60) + ";put 59;" + repeated("drop", 59) + ";return": false,
		repeated("now", 60) + ";binary 8;" + repeated("drop", 59) + ";return": true, repeated("now", 60) + ";std 0;" + repeated("drop", 60) + ";return": true, repeated("now", 60) + ";false 61;" + repeated("drop", 59) + ";return": true,
		"return;pick 60;return": true, "return;pick 61;return": false, "return;put 60;return": true, "return;put 61;return": false,
	} {
		expectCheck(t, text, body(2, text), isValid)
	}
	full := "unit f 3 1 0;return;unit p 1 1 0;"
	expectCheck(t, "a call on a full stack", assembled(full+repeated("now", 60)+";call 0;"+repeated("drop", 61)+";return"), false)
	expectCheck(t, "a call on an almost full stack", assembled(full+repeated("now", 59)+";call 0;"+repeated("drop", 60)+";return"), true)
}

// model says in another way whether a code is valid: it walks along all ways, with the depths that they have.
func model(c api.Code) bool {
	names := map[string]bool{}
	for at, u := range c.Units {
		if names[u.Name] || len(u.Name) == 0 || len(u.Name) > 12 || !strings.Contains("abcdefghijklmnopqrstuvwxyz", u.Name[:1]) || u.Name == "if" || len(u.Code) == 0 || len(u.Code) > 3000 {
			return false
		}
		names[u.Name] = true
		last := u.Code[len(u.Code)-1].Op
		isRight := u.Cells >= 0 && u.Cells <= 400 && (last == api.IReturn || last == api.IJump)
		if u.Kind == api.UFunction {
			isRight = isRight && u.Args >= 0 && u.Args <= 32 && u.Cells > u.Args
		} else {
			isRight = isRight && u.Args == 0 && (u.Kind == api.UProgram || u.Kind == api.UBlock)
		}
		if !isRight || !walks(c, at) {
			return false
		}
	}
	return len(c.Units) > 0 && len(c.Units) <= 16
}

// needs returns how many values an instruction needs on the stack, and how many more there are then; false if it is none.
func needs(c api.Code, at int, x api.Instr) (int, int, bool) {
	u := c.Units[at]
	none := x.A == 0 && x.B == 0
	isCell := x.A >= 0 && x.A < u.Cells
	// called has the kind of a unit before this one.
	called := 0
	if x.A >= 0 && x.A < at {
		called = c.Units[x.A].Kind
	}
	args := []int{1, 3, 2, 2, 3, 1, 1, 1}
	sizes := []int{6, 6, 3, 3, 3, 3, 6, 6, 6}
	switch x.Op {
	case api.IConst:
		return 0, 1, x.A == int(int32(x.A)) && x.B == 0
	case api.ILoad:
		return 0, 1, isCell && x.B == 0
	case api.IStore:
		return 1, -1, isCell && x.B == 0
	case api.ILoadX:
		return 1, 0, isCell && x.B > 0 && x.B <= 400 && x.A+x.B <= u.Cells
	case api.IStoreX:
		return 2, -2, isCell && x.B > 0 && x.B <= 400 && x.A+x.B <= u.Cells
	case api.IUnary:
		return 1, 0, (x.A == api.ENot || x.A == api.ENeg) && x.B == 0
	case api.IBinary:
		return 2, -1, x.A >= api.EOr && x.A <= api.EMod && x.B == 0
	case api.ICall:
		if called != api.UFunction {
			return 0, 0, false
		}
		return c.Units[x.A].Args, 1 - c.Units[x.A].Args, x.B == 0
	case api.IStd:
		if x.A < 0 || x.A > 7 {
			return 0, 0, false
		}
		return args[x.A], 1 - args[x.A], x.B == 0
	case api.IPart:
		return 0, 0, x.A >= 0 && x.A <= 8 && x.B >= 0 && x.B <= 400 && x.B+sizes[x.A] <= u.Cells
	case api.IUnit:
		return 0, 0, called == api.UBlock && x.B >= 0 && x.B <= 400 && x.B+c.Units[x.A].Cells <= u.Cells
	case api.IJump, api.IFalse:
		pops := x.Op - api.IJump
		return pops, -pops, x.A >= 0 && x.A < len(u.Code) && x.B == 0
	case api.IReturn:
		return 0, 0, none
	case api.IPick:
		return x.A + 1, 1, x.A >= 0 && x.A <= 60 && x.B == 0
	case api.IPut:
		return x.A + 2, -1, x.A >= 0 && x.A <= 60 && x.B == 0
	case api.IDrop:
		return 1, -1, none
	case api.INow:
		return 0, 1, none
	}
	return 0, 0, false
}

func walks(c api.Code, at int) bool {
	l := c.Units[at].Code
	for _, x := range l {
		if _, _, is := needs(c, at, x); !is {
			return false
		}
	}
	there := map[int]int{}
	isRight := true
	var walk func(place, depth int)
	walk = func(place, depth int) {
		if before, is := there[place]; is {
			isRight = isRight && before == depth
			return
		}
		there[place] = depth
		x := l[place]
		least, change, _ := needs(c, at, x)
		if depth > 60 || depth < least || x.Op == api.IReturn && depth != 0 {
			isRight = false
			return
		}
		if x.Op == api.IJump || x.Op == api.IFalse {
			walk(x.A, depth+change)
		}
		if x.Op != api.IJump && x.Op != api.IReturn {
			walk(place+1, depth+change)
		}
	}
	walk(0, 0)
	return isRight
}

// spoil changes something in a value: often a number into one that can stand elsewhere.
func spoil(v reflect.Value, r *rand.Rand) {
	switch v.Kind() {
	case reflect.Struct:
		spoil(v.Field(r.Intn(v.NumField())), r)
	case reflect.Slice:
		switch n := v.Len(); {
		case n > 0 && r.Intn(8) > 0:
			spoil(v.Index(r.Intn(n)), r)
		case n > 0 && r.Intn(2) == 0:
			v.Set(v.Slice(0, n-1))
		default:
			v.Set(reflect.Append(v, reflect.Zero(v.Type().Elem())))
		}
	case reflect.String:
		v.SetString(of("u0", "u1", "", "if", "X", "abcdefghijklm")[r.Intn(6)])
	case reflect.Int:
		v.SetInt(int64(of(-1, 0, 1, 2, 3, 4, 5, 6, 7, 8, 9, 10, 20, 60, 61, 401, math.MinInt, math.MaxInt)[r.Intn(18)]))
	}
}

// TestRandom holds Check against the model.
func TestRandom(t *testing.T) {
	t.Parallel()
	r := rand.New(rand.NewSource(1))
	m := samples.New(r.Intn)
	found := map[bool]int{}
	for range 20000 {
		c := m.Code()
		expectCheck(t, fmt.Sprint(c), c, true)
		if !model(c) {
			t.Fatalf("the model does not know %v", c)
		}
		for range 1 + r.Intn(3) {
			spoil(reflect.ValueOf(&c).Elem(), r)
		}
		before := fmt.Sprint(c)
		is := model(c)
		found[is]++
		expectCheck(t, before, c, is)
		if fmt.Sprint(c) != before {
			t.Fatalf("Check makes %s %v", before, c)
		}
	}
	if found[true] < 1000 || found[false] < 1000 {
		t.Errorf("%v", found)
	}
}

func TestSame(t *testing.T) {
	r := rand.New(rand.NewSource(2))
	m := samples.New(r.Intn)
	found := map[bool]int{}
	for range 5000 {
		c := m.Code()
		d := api.Code{Units: slices.Clone(c.Units)}
		for i := range d.Units {
			d.Units[i].Code = slices.Clone(d.Units[i].Code)
		}
		if r.Intn(3) > 0 {
			spoil(reflect.ValueOf(&d).Elem(), r)
		}
		want := reflect.DeepEqual(c, d) || len(c.Units)+len(d.Units) == 0
		found[want]++
		if code.Same(c, d) != want || code.Same(d, c) != want || !code.Same(c, c) {
			t.Fatalf("Same(%v, %v): %v", c, d, !want)
		}
	}
	if found[true] < 500 || found[false] < 500 {
		t.Errorf("%v", found)
	}
	one := api.UnitCode{Name: "p", Kind: 1, Cells: 2, Args: 3, Code: of(api.Instr{Op: 1, A: 2, B: 3})}
	for _, x := range []struct {
		change func(u *api.UnitCode)
		want   bool
	}{
		{func(u *api.UnitCode) {}, true}, {func(u *api.UnitCode) { u.Name = "q" }, false}, {func(u *api.UnitCode) { u.Kind = 2 }, false}, {func(u *api.UnitCode) { u.Cells = 3 }, false}, {func(u *api.UnitCode) { u.Args = 4 }, false},
		{func(u *api.UnitCode) { u.Code[0].Op = 2 }, false}, {func(u *api.UnitCode) { u.Code[0].A = 3 }, false}, {func(u *api.UnitCode) { u.Code[0].B = 4 }, false}, {func(u *api.UnitCode) { u.Code = append(u.Code, u.Code[0]) }, false}, {func(u *api.UnitCode) { u.Code = nil }, false},
	} {
		u := one
		u.Code = slices.Clone(one.Code)
		x.change(&u)
		if got := code.Same(api.Code{Units: of(one)}, api.Code{Units: of(u)}); got != x.want {
			t.Errorf("Same(%v, %v) = %v", one, u, got)
		}
	}
	empty := func(l []api.Instr) api.Code { return api.Code{Units: of(api.UnitCode{Code: l})} }
	if !code.Same(api.Code{}, api.Code{Units: []api.UnitCode{}}) || !code.Same(empty(nil), empty([]api.Instr{})) || code.Same(api.Code{}, empty(nil)) {
		t.Error("Same of empty lists")
	}
}

func TestName(t *testing.T) {
	for i, want := range ops() {
		if got := code.Name(i + 1); got != want {
			t.Errorf("Name(%d) = %q; want %q", i+1, got, want)
		}
	}
	for _, op := range of(0, -1, 19, 20, 100, math.MaxInt, math.MinInt) {
		if got := code.Name(op); got != "" {
			t.Errorf("Name(%d) = %q", op, got)
		}
	}
}
