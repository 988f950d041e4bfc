package ladder_test

import (
	"math/rand"
	"reflect"
	"slices"
	"strings"
	"testing"

	"winch/api"
	"winch/ladder"
)

func TestEdges(t *testing.T) {
	for _, x := range []struct {
		source string
		want   []string
	}{
		{"", nil}, {"rung: a -> q;", nil}, {"rung: /a & [b] -> set q, reset r, /s;", nil}, {"rung: +a -> q;", of("a")}, {"rung: -a -> q;", of("a")}, {"rung: a -> +q;", of("q")}, {"rung: a -> -q, r;", of("q")},
		{"rung: +a & -b -> +c, d, -e;", of("a", "b", "c", "e")}, {"rung: (+a | b & (-c | +a)) & -d -> q; rung: +e -> -a, return;", of("a", "c", "a", "d", "e", "a")}, {"rung: +a & +a -> +a; rung: -a -> -a;", of("a", "a", "a", "a", "a")},
		{"rung: box f(in).q & +a -> jump a; rung a: true -> -b;", of("a", "b")},
	} {
		if got, err := ladder.Edges(rungs(t, x.source)); !slices.Equal(got, x.want) || err != api.OK {
			t.Errorf("Edges of %q: %v, %d; want %v", x.source, got, err, x.want)
		}
	}
}

func TestFlat(t *testing.T) {
	for source, want := range map[string]string{
		"a": "a", "true": "true", "[a + 1]": "[a + 1]", "box f(in, a := x).q": "box f(in, a := x).q", "a & b": "a & b", "a & (b | c)": "a & (b | c)", "a | b & c": "a | b & c", "(a & b) & c": "a & b & c", "a & (b & c)": "a & b & c",
		"a & (b & (c & d)) & e": "a & b & c & d & e", "(a | b) | c": "a | b | c", "a | (b | (c | (d | e)))": "a | b | c | d | e", "a & ((b | c) | d)": "a & (b | c | d)", "(a & b & (c | (d | e & (f & g)))) & h": "a & b & (c | d | e & f & g) & h",
		"((a | b) | c) & (d & e) | (f | g)": "(a | b | c) & d & e | f | g", "(+a & (/b & -c)) | ([x] | (true | box f(in).q))": "+a & /b & -c | [x] | true | box f(in).q", nested(14, "a"): nested(14, "a"),
		strings.Repeat("(a & ", 13) + "a" + strings.Repeat(")", 13): strings.Repeat("a & ", 13) + "a",
	} {
		p := power(t, source)
		if got, err := ladder.Flat(p); !reflect.DeepEqual(got, power(t, want)) || err != api.OK {
			t.Errorf("Flat of %q: %v, %d; want %q", source, got, err, want)
		}
	}
}

// pathsOf returns the texts of the paths of an element, in each of which elements have a blank between.
func pathsOf(t *testing.T, p api.Power) ([]string, api.Errno) {
	t.Helper()
	paths, err := ladder.Paths(p)
	var l []string
	for _, path := range paths {
		var words []string
		for _, e := range path {
			words = append(words, writePower(e))
		}
		l = append(l, strings.Join(words, " "))
	}
	return l, err
}

func TestPaths(t *testing.T) {
	for source, want := range map[string]string{
		"a": "a", "true": "true", "[x]": "[x]", "box f(in, a := 1).q": "box f(in,a:=1).q", "a & b": "a b", "a | b": "a, b", "a & (b | /c)": "a b, a /c", "(a | b) & (c | d)": "a c, a d, b c, b d", "a & a | a & a": "a a, a a",
		"(a | b) & c & (d | e | f)": "a c d, a c e, a c f, b c d, b c e, b c f", "a | b & c | (d | e) & f": "a, b c, d f, e f", "a & b | c & (d | e & (f | g))": "a b, c d, c e f, c e g", "(a & (b | c)) & (d & (e | f))": "a b d e, a b d f, a c d e, a c d f",
		"((a | b) | c) & true": "a true, b true, c true", "(a & b | c) & (d | e & f)": "a b d, a b e f, c d, c e f", "(+a | -b) & [x] & (a & (b | c) | d)": "+a [x] a b, +a [x] a c, +a [x] d, -b [x] a b, -b [x] a c, -b [x] d",
	} {
		if got, err := pathsOf(t, power(t, source)); strings.Join(got, ", ") != want || err != api.OK {
			t.Errorf("Paths of %q: %v, %d; want %q", source, got, err, want)
		}
	}
}

func TestLimitOfPaths(t *testing.T) {
	a, b := plain("a"), plain("b")
	many := func(n int) api.Power { return parallel(slices.Repeat(of(a), n)...) }
	two := parallel(a, b)
	for _, x := range []struct {
		p api.Power
		n int
	}{
		{many(199), 199}, {many(200), 200}, {many(201), -1}, {series(many(10), many(20)), 200}, {series(many(3), many(67)), -1}, {series(many(20), b, many(10), b), 200}, {series(many(200), b), 200}, {parallel(series(many(100), b), many(100)), 200},
		{parallel(series(many(100), b), many(101)), -1}, {series(slices.Repeat(of(two), 7)...), 128}, {series(slices.Repeat(of(two), 8)...), -1}, {series(slices.Repeat(of(two), 160)...), -1}, {series(slices.Repeat(of(a), 497)...), 1},
		{series(append(slices.Repeat(of(a), 290), many(200))...), 200}, {series(many(50), parallel(a, b, a, b)), 200}, {many(497), -1},
	} {
		got, err := ladder.Paths(x.p)
		want := api.OK
		if x.n < 0 {
			want = api.ErrFull
		}
		if err != want || len(got) != max(x.n, 0) {
			t.Errorf("Paths: %d, %d; want %d", len(got), err, x.n)
		}
		if _, err := ladder.Flat(x.p); err != api.OK {
			t.Errorf("Flat: %d", err)
		}
	}
	// What is not well formed comes first, and there is room for a rung and a coil.
	for _, p := range []api.Power{many(498), series(append(slices.Repeat(of(two), 160), api.Power{})...), series(slices.Repeat(of(a), 498)...)} {
		if got, err := ladder.Paths(p); len(got) != 0 || err != api.ErrArg {
			t.Errorf("Paths: %d, %d", len(got), err)
		}
	}
	expectPower(t, series(slices.Repeat(of(a), 497)...), api.OK)
}

// product returns the paths of an element by counting: of all choices of a path of each part, the last one changes first.
func product(p api.Power) [][]api.Power {
	switch p.Op {
	case api.PParallel:
		var all [][]api.Power
		for _, part := range p.Parts {
			all = append(all, product(part)...)
		}
		return all
	case api.PSeries:
		n := 1
		var of [][][]api.Power
		for _, part := range p.Parts {
			of = append(of, product(part))
			n *= len(of[len(of)-1])
		}
		all := make([][]api.Power, n)
		for i := range all {
			rest := i
			for k := len(of) - 1; k >= 0; k-- {
				all[i] = append(slices.Clone(of[k][rest%len(of[k])]), all[i]...)
				rest /= len(of[k])
			}
		}
		return all
	}
	return [][]api.Power{{p}}
}

// count returns the number of paths of an element, at most a million.
func count(p api.Power) int {
	n := 1
	if p.Op == api.PParallel {
		n = 0
	}
	for _, part := range p.Parts {
		if p.Op == api.PParallel {
			n += count(part)
		} else {
			n *= count(part)
		}
		n = min(n, 1000000)
	}
	return n
}

// isFlat reports whether no part is of the kind of the element that it is a part of.
func isFlat(p api.Power) bool {
	for _, part := range p.Parts {
		if part.Op == p.Op || !isFlat(part) {
			return false
		}
	}
	return true
}

// TestFlatAndPaths is about P5.5, with random elements.
func TestFlatAndPaths(t *testing.T) {
	r := rand.New(rand.NewSource(7))
	full, most := 0, 0
	for range 8000 {
		p := randomPower(r, 1+r.Intn(8))
		if r.Intn(3) == 0 {
			p = series(p, randomPower(r, 6), randomPower(r, 6), randomPower(r, 6))
		}
		if ladder.Check(alone(p)) != api.OK {
			expectPower(t, p, api.ErrArg)
			continue
		}
		f, err := ladder.Flat(p)
		g, err2 := ladder.Flat(f)
		if err != api.OK || err2 != api.OK || !isFlat(f) || !reflect.DeepEqual(f, g) || reflect.DeepEqual(f, p) != isFlat(p) {
			t.Fatalf("Flat(%v) = %v, %d; again %v, %d", p, f, err, g, err2)
		}
		paths, err := ladder.Paths(p)
		flat, err2 := ladder.Paths(f)
		if count(p) > api.MaxPaths {
			full++
			if err != api.ErrFull || err2 != api.ErrFull || len(paths) != 0 || len(flat) != 0 {
				t.Fatalf("Paths(%v): %d, %d of %d", p, err, err2, count(p))
			}
			continue
		}
		want := product(p)
		most = max(most, len(want))
		if err != api.OK || err2 != api.OK || !reflect.DeepEqual(paths, want) || !reflect.DeepEqual(flat, want) {
			t.Fatalf("Paths(%v) = %v, %d", p, paths, err)
		}
		before, _ := ladder.Edges(alone(p))
		after, err := ladder.Edges(alone(f))
		if err != api.OK || !slices.Equal(before, after) {
			t.Fatalf("Edges of %v: %v; of the flat one %v", p, before, after)
		}
	}
	if full < 5 || most < 50 {
		t.Errorf("%d elements with too many paths, the others with at most %d", full, most)
	}
}

// spoil overwrites all that an element has in memory that could be shared.
func spoil(p api.Power) {
	for _, part := range p.Parts {
		spoil(part)
	}
	for _, l := range [][]api.Expr{p.Arg, p.Args} {
		for i := range l {
			clear(l[i].Args)
		}
		clear(l)
	}
	clear(p.Fields)
	clear(p.Parts)
}

// TestNewMemory is about the rule of effects: results share no memory, and arguments are not changed.
func TestNewMemory(t *testing.T) {
	source := "rung x: (a & ([b + 1] & box f(in, a := -c).q)) & (+d | (e | [g(h)])) -> +q, jump y; rung y: true -> return;"
	l, m := rungs(t, source), rungs(t, source)
	p := l[0].Power
	text, _ := ladder.Text(l)
	flat, _ := ladder.Flat(p)
	again, _ := ladder.Flat(p)
	spoil(flat)
	paths, _ := ladder.Paths(p)
	others, _ := ladder.Paths(p)
	if len(paths) != 3 {
		t.Fatalf("%d paths", len(paths))
	}
	for i := range paths {
		for j := range i {
			if !reflect.DeepEqual(paths[j], make([]api.Power, len(paths[j]))) {
				t.Errorf("path %d was changed", j)
			}
		}
		if !reflect.DeepEqual(paths[i], others[i]) {
			t.Errorf("path %d was changed to %v", i, paths[i])
		}
		for _, e := range paths[i] {
			spoil(e)
		}
		clear(paths[i])
	}
	names, _ := ladder.Edges(l)
	clear(names)
	if now, err := ladder.Text(l); now != text || err != api.OK || !ladder.Same(l, m) {
		t.Errorf("the ladder was changed: %q", now)
	}
	spoil(p)
	clear(l[0].Coils)
	want := power(t, "a & [b + 1] & box f(in, a := -c).q & (+d | e | [g(h)])")
	if !reflect.DeepEqual(again, want) || !ladder.Same(m, rungs(t, source)) {
		t.Errorf("Flat was changed: %v", again)
	}
	if strings.Count(text, "\n") != 2 {
		t.Errorf("Text: %q", text)
	}
}
