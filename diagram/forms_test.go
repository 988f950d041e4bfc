package diagram_test

import (
	"fmt"
	"math"
	"math/rand"
	"reflect"
	"slices"
	"strings"
	"testing"

	"winch/api"
	"winch/diagram"
	"winch/print"
)

// write writes nodes in its own way, whatever they are; what there is no word for has the word "?".
func write(l []api.Node) string {
	words := map[int]string{api.ENot: "not", api.EAnd: "and", api.EOr: "or", api.EXor: "xor", api.EAdd: "add", api.ESub: "sub", api.EMul: "mul", api.EDiv: "div", api.EMod: "mod",
		api.EGt: "gt", api.EGe: "ge", api.EEq: "eq", api.ENe: "ne", api.ELe: "le", api.ELt: "lt"}
	var all strings.Builder
	for _, n := range l {
		var pins []string
		for _, p := range n.Pins {
			text := ""
			if p.Neg {
				text = "/"
			}
			if p.From != 0 {
				text += fmt.Sprintf(": %d", p.From)
			} else {
				e, _ := print.Expr(p.Arg[0])
				text += "(" + e + ")"
			}
			if n.Op == api.DBlock {
				text = p.Name + ":=" + text
			}
			pins = append(pins, text)
		}
		inside := strings.Join(pins, ",")
		switch n.Op {
		case api.DOp:
			if words[n.E] == "" {
				words[n.E] = "?"
			}
			fmt.Fprintf(&all, "%d:%s(%s);", n.Number, words[n.E], inside)
		case api.DBlock:
			fmt.Fprintf(&all, "%d:%s(%s).%s;", n.Number, n.Name, inside, n.Out)
		case api.DOut:
			fmt.Fprintf(&all, "%s:=%s;", n.Name, inside)
		default:
			all.WriteString("?")
		}
	}
	return all.String()
}

// canBeWritten reports whether reading what write makes of a diagram gives it again.
func canBeWritten(l []api.Node) (can bool) {
	defer func() {
		if recover() != nil {
			can = false
		}
	}()
	got, _, err := diagram.Read(write(l))
	return err == api.OK && reflect.DeepEqual(got, l)
}

// expectForm checks what is said of a diagram by all functions that want a well formed one. (It does not write the diagram, which
// may contain itself.)
func expectForm(t *testing.T, l []api.Node, want api.Errno) {
	t.Helper()
	text, e1 := diagram.Text(l)
	order, e2 := diagram.Order(l)
	other, e3 := diagram.Numbered(l)
	takers, e4 := diagram.Takers(l, 1)
	if want == api.OK && e4 == api.ErrNone {
		e4 = api.OK
	}
	if e := diagram.Check(l); e != want || e1 != want || e2 != want || e3 != want || e4 != want {
		t.Errorf("%d nodes: Check %d, Text %d, Order %d, Numbered %d, Takers %d; want %d", len(l), e, e1, e2, e3, e4, want)
	}
	if want != api.OK && (text != "" || len(order) != 0 || len(other) != 0 || len(takers) != 0) {
		t.Errorf("%d nodes: Text %q, Order %v, %d nodes numbered, Takers %v", len(l), text, order, len(other), takers)
	}
}

// TestWellFormed has sources of the grammar that are well formed or not, for each reason.
func TestWellFormed(t *testing.T) {
	minus := func(n int) string { return strings.Repeat("-", n) + "a" }
	inputs := func(n int) string {
		var l []string
		for i := range n {
			l = append(l, fmt.Sprintf("a%d := b", i))
		}
		return strings.Join(l, ", ")
	}
	for _, x := range []struct {
		source string
		e      api.Errno
	}{
		{"1: not(a); 1: not(b);", api.ErrFull}, {"1: not(a); 2: f().q; q := a; 1: f().q;", api.ErrFull}, {"1: not(a); 2: not(a); 999: f().q;", api.OK}, {"1000: not(a);", api.ErrFull}, {"999: not(a);", api.OK}, {"2147483647: f().q;", api.ErrFull},
		{"0: not(a); 1: not(a); 0: f().q;", api.OK}, {"0: not(a); q := :0;", api.ErrFull}, {"q := :0;", api.ErrFull}, {"1: and(:0, a);", api.ErrFull}, {"1: f(in := /:0).q;", api.ErrFull},
		{"q := :1;", api.ErrFull}, {"1: not(a); q := :2;", api.ErrFull}, {"1: not(a); q := :1;", api.OK}, {"q := :1; 1: not(a);", api.OK}, {"1: f(in := :3).q; 3: not(a);", api.OK}, {"1: f(in := :3).q; 2: not(a);", api.ErrFull}, {"1: not(a); q := :1000;", api.ErrFull},
		{"1: not(:1);", api.ErrFull}, {"1: not(:2); 2: not(:1);", api.ErrFull}, {"1: and(a, :2); 2: or(:3, b); 3: f(in := :1).q;", api.ErrFull}, {"1: and(a, :2); 2: or(:3, b); 3: f(in := b).q;", api.OK}, {"1: not(:2); 2: not(:2);", api.ErrFull},
		{"q := a; 1: not(:2); 2: not(:1); r := b;", api.ErrFull}, {"1: not(a); 2: not(:3); 3: not(:2); q := :1;", api.ErrFull}, {"1: and(:2, :2); 2: not(a); q := :1; r := :1;", api.OK},
		{"1: f(a := 1, a := 2).q;", api.ErrFull}, {"1: f(a := 1, b := 2, a := :2).q; 2: not(a);", api.ErrFull}, {"1: f(a := 1, b := 2).a; 2: f(a := 1, b := 2).a;", api.OK},
		// Nodes: a node, its pin and the expression of that are three.
		{strings.Repeat("q := a;", 166), api.OK}, {strings.Repeat("q := a;", 167), api.ErrFull}, {strings.Repeat("q := a;", 166) + "1: f().q; 2: f().q;", api.OK}, {strings.Repeat("q := a;", 166) + "1: f().q; 2: f().q; 3: f().q;", api.ErrFull},
		{strings.Repeat("q := a;", 166) + "1: f().q; q := :1;", api.ErrFull}, {strings.Repeat("q := a;", 165) + "1: f().q; q := :1;", api.OK}, {strings.Repeat("q := a;", 165) + "1: f().q; q := :1; 2: f().q; 3: f().q;", api.OK},
		{strings.Repeat("q := a;", 165) + "1: f().q; q := :1; 2: not(:1); 3: f().q;", api.ErrFull}, {strings.Repeat("q := a;", 165) + "1: and(a, b);", api.OK}, {strings.Repeat("q := a;", 165) + "1: and(a, -b);", api.ErrFull},
		{strings.Repeat("q := a;", 166) + "1: and(a, b);", api.ErrFull}, {strings.Repeat("q := a;", 165) + "q := a + (b);", api.OK}, {strings.Repeat("q := a;", 165) + "q := a + b + c;", api.ErrFull},
		{"1: f(" + inputs(249) + ").q;", api.OK}, {"1: f(" + inputs(250) + ").q;", api.ErrFull}, {"1: f(" + inputs(249) + ").q; 2: f().q;", api.OK}, {"q := f(" + strings.Repeat("a, ", 496) + "a);", api.OK}, {"q := f(" + strings.Repeat("a, ", 497) + "a);", api.ErrFull},
		{"q := f(" + strings.Repeat("a, ", 505) + "a);", api.ErrFull},
		// Depth: an expression has the depth 1.
		{"q := " + minus(13) + ";", api.OK}, {"q := " + minus(14) + ";", api.ErrFull}, {"1: and(a, /" + minus(13) + ");", api.OK}, {"1: and(a, /" + minus(14) + ");", api.ErrFull}, {"1: f(in := " + minus(13) + ").q;", api.OK}, {"1: f(in := 1, b := " + minus(14) + ").q;", api.ErrFull},
		{"q := " + strings.Repeat("(", 3900) + "a" + strings.Repeat(")", 3900) + ";", api.OK},
	} {
		l, at, e := diagram.Read(x.source)
		if e != x.e || at != 0 || e != api.OK && len(l) != 0 {
			t.Errorf("Read(%.70q ... %.40q) = %d nodes, %d, %d; want %d", x.source, x.source[max(0, len(x.source)-40):], len(l), at, e, x.e)
		}
		if e == api.OK {
			expectForm(t, l, api.OK)
		}
	}
}

// TestLongRows has as many nodes as there can be, each of which takes from the one before it, or after it.
func TestLongRows(t *testing.T) {
	up, down := of(block(1, "f", "q")), of(block(250, "f", "q"))
	for i := range 249 {
		up = append(up, operator(i+2, api.ENot, from(i+1)))
		down = slices.Insert(down, 0, operator(249-i, api.ENot, from(250-i)))
	}
	// With pins there are 499 nodes.
	for _, l := range [][]api.Node{up, down, append(up[1:len(up):len(up)], up[0])} {
		order, err := diagram.Order(l)
		if want := stepwise(l); err != api.OK || !slices.Equal(order, want) {
			t.Errorf("Order of a row: %v, %d; want %v", order, err, want)
		}
		expectForm(t, append(l, block(251, "f", "q")), api.OK)
		expectForm(t, append(l, out("q", from(250))), api.ErrArg)
		expectForm(t, append(l, operator(251, api.ENot, from(1))), api.ErrArg)
	}
	many := slices.Repeat(of(block(0, "f", "q")), 1<<20)
	expectForm(t, many[:500], api.OK)
	expectForm(t, many[:501], api.ErrArg)
	expectForm(t, many, api.ErrArg)
}

func TestWrongNodes(t *testing.T) {
	a := variable("a")
	e := a.Arg
	endless := api.Expr{Op: api.EAdd, Args: make([]api.Expr, 2)}
	endless.Args[0], endless.Args[1] = endless, endless
	deep := api.Expr{Op: api.EName, S: "a"}
	for range 60000 {
		deep = api.Expr{Op: api.ENot, Args: of(deep)}
	}
	wrong := []api.Node{
		{}, {Op: -1}, {Op: 4, Number: 1}, {Op: math.MaxInt}, {Op: math.MinInt}, operator(1, 0, a), operator(1, api.ENot), operator(1, api.ENot, a, a), operator(1, api.EAnd), operator(1, api.EAnd, a), operator(1, api.EAnd, a, a, a), operator(1, api.ENeg, a),
		operator(1, api.EConst, a, a), operator(1, api.ECall, a, a), operator(1, 22, a, a), operator(1, -1, a, a), operator(-1, api.ENot, a), operator(1000, api.ENot, a), operator(math.MinInt, api.ENot, a), operator(math.MaxInt, api.ENot, a),
		{Op: api.DOp, Number: 1, E: api.ENot, Name: "f", Pins: of(a)}, {Op: api.DOp, Number: 1, E: api.ENot, Out: "q", Pins: of(a)}, operator(1, api.ENot, named("in", a)), operator(1, api.EAnd, a, named("b", a)),
		block(1, "", "q"), block(1, "f", ""), block(1, "not", "q"), block(1, "f", "end"), block(1, "F", "q"), block(1, "thirteen_byte", "q"), block(1, "f", "q", a), block(1, "f", "q", named("in", a), a), block(1, "f", "q", named("or", a)), block(1000, "f", "q"), block(-5, "f", "q"),
		block(1, "f", "q", named("in", a), named("in", from(5))), {Op: api.DBlock, Number: 1, Name: "f", Out: "q", E: api.ENot}, block(1, "f", "q", named("in", api.Pin{})),
		{Op: api.DOut, Name: "q"}, {Op: api.DOut, Name: "q", Pins: of(a, a)}, {Op: api.DOut, Pins: of(a)}, out("if", a), out("q", named("q", a)), {Op: api.DOut, Number: 1, Name: "q", Pins: of(a)}, {Op: api.DOut, Number: -1, Name: "q", Pins: of(a)},
		{Op: api.DOut, Name: "q", Out: "q", Pins: of(a)}, {Op: api.DOut, Name: "q", E: api.EAnd, Pins: of(a)}, {Op: api.DOut, Name: "q", E: api.ENot, Pins: of(a)},
		out("q", api.Pin{}), out("q", not(api.Pin{})), out("q", api.Pin{From: 5, Arg: e}), out("q", api.Pin{Arg: of(e[0], e[0])}), out("q", api.Pin{Arg: of(api.Expr{})}), out("q", api.Pin{Arg: of(endless)}), out("q", api.Pin{Arg: of(deep)}), out("q", from(6)), out("q", from(-1)), out("q", from(math.MinInt)),
		out("q", from(math.MaxInt)), out("q", from(1000)), out("q", api.Pin{Arg: of(api.Expr{Op: api.ECall, S: "f", Args: slices.Repeat(e, 498)})}), block(1, "f", "q", slices.Repeat(of(a), 100000)...), operator(1, api.EAnd, slices.Repeat(of(a), 100000)...),
		operator(5, api.ENot, a), operator(7, api.ENot, from(7)),
	}
	good := operator(5, api.ENot, a)
	for i, x := range wrong {
		for j, l := range [][]api.Node{{good, x}, {x, good}, {out("q", from(5)), x, good}} {
			t.Run(fmt.Sprintf("%d, %d", i, j), func(t *testing.T) { expectForm(t, l, api.ErrArg) })
		}
	}
	if x := out("q", api.Pin{Arg: of(deep)}); !diagram.Same(of(x), of(x)) || diagram.Same(of(x), of(out("q", api.Pin{Arg: of(deep.Args[0])}))) {
		t.Error("Same of deep ones")
	}
	// An empty list is as good as none.
	for _, x := range []api.Node{block(1, "f", "q", []api.Pin{}...), out("q", api.Pin{From: 5, Arg: []api.Expr{}})} {
		expectForm(t, of(good, x), api.OK)
	}
}

// changes are changes of single fields of a node with a pin, each of which may or may not fit.
func changes() map[string]func(*api.Node, *api.Pin) {
	return map[string]func(*api.Node, *api.Pin){
		"number": func(n *api.Node, p *api.Pin) { n.Number++ }, "no number": func(n *api.Node, p *api.Pin) { n.Number = 0 }, "op": func(n *api.Node, p *api.Pin) { n.Op++ }, "less": func(n *api.Node, p *api.Pin) { n.Op-- }, "e": func(n *api.Node, p *api.Pin) { n.E++ },
		"other e": func(n *api.Node, p *api.Pin) { n.E-- }, "name": func(n *api.Node, p *api.Pin) { n.Name += "z" }, "no name": func(n *api.Node, p *api.Pin) { n.Name = "" }, "out": func(n *api.Node, p *api.Pin) { n.Out += "z" }, "no out": func(n *api.Node, p *api.Pin) { n.Out = "" },
		"pin": func(n *api.Node, p *api.Pin) { n.Pins = append(n.Pins, variable("z")) }, "named": func(n *api.Node, p *api.Pin) { n.Pins = append(n.Pins, named("z", variable("z"))) }, "less pins": func(n *api.Node, p *api.Pin) { n.Pins = n.Pins[:max(0, len(n.Pins)-1)] },
		"pin's name": func(n *api.Node, p *api.Pin) { p.Name += "z" }, "pin without name": func(n *api.Node, p *api.Pin) { p.Name = "" }, "from": func(n *api.Node, p *api.Pin) { p.From++ }, "nothing": func(n *api.Node, p *api.Pin) { p.From = 0 },
		"neg": func(n *api.Node, p *api.Pin) { p.Neg = !p.Neg }, "arg": func(n *api.Node, p *api.Pin) { p.Arg = append(slices.Clone(p.Arg), variable("z").Arg...) }, "no arg": func(n *api.Node, p *api.Pin) { p.Arg = nil },
		"other arg": func(n *api.Node, p *api.Pin) { p.From, p.Arg = 0, variable("z").Arg },
	}
}

func someNodes(t *testing.T) []api.Node {
	return nodes(t, "1: not(a); 10: and(:1, b); 20: lt(a + 1, /:10); q := :20; r := /a; 30: t1(in := :10, pt := t#500).q; 40: f().q; s := /:40; 50: eq(/:30, /f(a)); q := :12; 12: or(:50, /a);")
}

// TestChanged changes fields of diagrams, and expects that only those are well formed that can be read.
func TestChanged(t *testing.T) {
	whole := someNodes(t)
	expectForm(t, whole, api.OK)
	good := 0
	for i := range whole {
		for what, change := range changes() {
			for j := range max(1, len(whole[i].Pins)) {
				l := slices.Clone(whole)
				l[i].Pins = slices.Clone(l[i].Pins)
				p := &api.Pin{}
				if len(l[i].Pins) > 0 {
					p = &l[i].Pins[j]
				}
				change(&l[i], p)
				can := canBeWritten(l)
				if can {
					good++
				}
				if (diagram.Check(l) == api.OK) != can {
					t.Errorf("node %d, %v, with another %s: Check %d", i, l[i], what, diagram.Check(l))
				}
				same := reflect.DeepEqual(l[i], whole[i]) || len(l[i].Pins)+len(whole[i].Pins) == 0 && reflect.DeepEqual(write(l[i:i+1]), write(whole[i:i+1])) && l[i].E == whole[i].E
				if diagram.Same(l, whole) != same || diagram.Same(whole, l) != same || !diagram.Same(l, l) {
					t.Errorf("Same of node %d and %v, with another %s", i, l[i], what)
				}
			}
		}
	}
	if good < 100 {
		t.Errorf("only %d good ones", good)
	}
}

func TestSame(t *testing.T) {
	l := append(someNodes(t), api.Node{}, api.Node{Number: -1, Op: math.MinInt, Pins: of(api.Pin{From: -1, Name: "?"})})
	for i, a := range l {
		for j, b := range l {
			if diagram.Same(of(a), of(b)) != (i == j) {
				t.Errorf("Same(%v, %v)", a, b)
			}
		}
	}
	if !diagram.Same(nil, nil) || !diagram.Same(nil, []api.Node{}) || !diagram.Same(of(api.Node{Pins: []api.Pin{}}), of(api.Node{})) || diagram.Same(nil, l) || diagram.Same(l, nil) || diagram.Same(l, l[1:]) || !diagram.Same(l, l) {
		t.Error("Same of nothing and of all")
	}
	if !diagram.Same(of(out("q", api.Pin{Arg: []api.Expr{}})), of(out("q", api.Pin{}))) {
		t.Error("an empty list is equal to nil")
	}
}

// randomDiagram returns a diagram that is perhaps not well formed.
func randomDiagram(r *rand.Rand) []api.Node {
	name := func() string { return []string{"a", "b", "c", "twelve_bytes"}[r.Intn(4)] }
	count := r.Intn(9)
	numbers := r.Perm(30)
	pin := func() api.Pin {
		p := variable(name())
		switch r.Intn(3) {
		case 0:
			p.Arg = of(api.Expr{Op: api.EOr, Args: of(p.Arg[0], api.Expr{Op: api.ENot, Args: p.Arg})})
		case 1:
			p = from(numbers[r.Intn(len(numbers)*count/30+1)])
		}
		p.Neg = r.Intn(3) == 0
		return p
	}
	var l []api.Node
	for i := range count {
		switch e := api.EOr + r.Intn(14); r.Intn(6) {
		case 0, 1:
			l = append(l, operator(numbers[i], e, pin(), pin()))
		case 2:
			l = append(l, operator(numbers[i], api.ENot, pin()))
		case 3:
			l = append(l, block(numbers[i], name(), name(), named(name(), pin()), named("in", pin())))
		case 4:
			l = append(l, block(numbers[i], name(), name()))
		case 5:
			l = append(l, out(name(), pin()))
		}
	}
	return l
}

// TestDiagramsAgain is about P6.4: what is written is read again, and written in the same way.
func TestDiagramsAgain(t *testing.T) {
	r := rand.New(rand.NewSource(5))
	good := 0
	for range 10000 {
		l := randomDiagram(r)
		text, err := diagram.Text(l)
		if (err == api.OK) != canBeWritten(l) || (diagram.Check(l) == api.OK) != (err == api.OK) {
			t.Fatalf("Text(%v) = %q, %d", l, text, err)
		}
		if err != api.OK {
			continue
		}
		good++
		got, _, err := diagram.Read(text)
		again, _ := diagram.Text(got)
		if err != api.OK || !diagram.Same(got, l) || again != text || strings.Count(text, "\n") != len(l) {
			t.Fatalf("%q is read as %v, %d", text, got, err)
		}
	}
	if good < 1000 {
		t.Errorf("only %d good diagrams", good)
	}
}
