package direct_test

import (
	"math"
	"math/rand"
	"reflect"
	"slices"
	"strings"
	"testing"

	"winch/api"
	"winch/chart"
	"winch/check"
	"winch/diagram"
	"winch/direct"
	"winch/eval"
	"winch/internal/samples"
	"winch/ladder"
	"winch/project"
	"winch/types"
)

// scanner makes random scans of random projects.
type scanner struct {
	*samples.Maker
	p      api.Project
	source string
	unit   int
	cells  []int
	now    int
}

// scans visits random units of random projects, in all languages or some, with random cells and times; many of them several times, one
// scan after the other.
func scans(seed int64, count int, visit func(s *scanner, after []int, fault int), languages ...string) {
	r := rand.New(rand.NewSource(seed))
	s := &scanner{Maker: samples.New(r.Intn)}
	if len(languages) > 0 {
		s.Languages = strings.Join(languages, " ")
	}
	for range count {
		s.p, s.source = s.Project()
		s.unit = r.Intn(len(s.p.Units))
		if s.p.Units[s.unit].Kind == api.UFunction {
			continue
		}
		s.cells, s.now = s.Cells(s.p, s.unit), r.Intn(40)
		if r.Intn(2) == 0 {
			s.cells, _ = types.Initial(s.p, s.unit)
		}
		for range 5 {
			after, fault, err := direct.Scan(s.p, s.unit, s.cells, s.now)
			if err != api.OK {
				visit(s, nil, -1)
				break
			}
			visit(s, after, fault)
			s.cells = after
			s.now += r.Intn(8)
			inputs, _ := direct.Inputs(s.p, s.unit)
			layout, _ := types.Layout(s.p, s.unit)
			for _, at := range inputs {
				s.cells[at] = s.Value(layout[at].Kind)
			}
		}
	}
}

// TestProperties is about P13.5, and P4.
func TestProperties(t *testing.T) {
	t.Parallel()
	faults := map[int]int{}
	changed := 0
	scans(1, 900, func(s *scanner, after []int, fault int) {
		faults[fault]++
		if fault < 0 || !types.IsCells(s.p, s.unit, after) || fault != api.FNone && !slices.Equal(after, s.cells) {
			t.Fatalf("%s\nunit %d: a scan of %v makes %v, %d", s.source, s.unit, s.cells, after, fault)
		}
		sets, _ := check.Sets(s.p, s.unit)
		layout, _ := types.Layout(s.p, s.unit)
		for i, c := range layout {
			if after[i] == s.cells[i] {
				continue
			}
			changed++
			if c.Var < 0 {
				continue
			}
			if v := s.p.Units[s.unit].Vars[c.Var]; !slices.Contains(sets, v.Name) || v.Class == api.VInput && v.Type.Kind != api.KBlock {
				t.Fatalf("%s\nunit %d: a scan of %v makes %v, but sets %v", s.source, s.unit, s.cells, after, sets)
			}
		}
	})
	if faults[api.FNone] < 1500 || faults[api.FZero] < 30 || faults[api.FIndex] < 30 || faults[api.FFuel] == 0 || changed < 1500 {
		t.Errorf("%v, %d cells changed", faults, changed)
	}
}

// isTimed reports whether a unit, or one that it calls, has a timed block or a chart.
func isTimed(p api.Project, unit int) bool {
	u := p.Units[unit]
	is := u.Body.Lang == api.InChart
	for _, v := range u.Vars {
		is = is || v.Type.Kind == api.KBlock && (v.Type.Block == "ton" || v.Type.Block == "tof" || v.Type.Block == "tp")
	}
	called, _ := check.Calls(p, unit)
	for _, at := range called {
		is = is || isTimed(p, at)
	}
	return is
}

// TestSameScans checks that scans do not depend on what they must not depend on: the time, if there is nothing timed, the text of the
// project, and the names of variables.
func TestSameScans(t *testing.T) {
	t.Parallel()
	timed := map[bool]int{}
	scans(2, 300, func(s *scanner, after []int, fault int) {
		is := isTimed(s.p, s.unit)
		timed[is]++
		if !is {
			s.expect(t, "another time", s.p, s.unit, s.now+1000, after, fault)
		}
		text, _ := project.Text(s.p)
		again, _, err := project.Read(text)
		if err != api.OK {
			t.Fatalf("Read(%q): %d", text, err)
		}
		s.expect(t, "the text", again, s.unit, s.now, after, fault)
		if vars := s.p.Units[s.unit].Vars; s.p.Units[s.unit].Kind == api.UProgram {
			renamed, err := project.Rename(s.p, s.unit, vars[len(vars)/2].Name, "z")
			if err != api.OK {
				t.Fatalf("Rename: %d", err)
			}
			s.expect(t, "another name", renamed, s.unit, s.now, after, fault)
		}
		var turned api.Project
		for _, u := range slices.Backward(s.p.Units) {
			turned.Units = append(turned.Units, u)
		}
		s.expect(t, "another order", turned, len(s.p.Units)-1-s.unit, s.now, after, fault)
	})
	if timed[true] < 200 || timed[false] < 200 {
		t.Errorf("%v", timed)
	}
}

// expect checks that the scan of another project is the same.
func (s *scanner) expect(t *testing.T, what string, p api.Project, unit, now int, after []int, fault int) {
	t.Helper()
	got, found, err := direct.Scan(p, unit, s.cells, now)
	if !slices.Equal(got, after) || found != fault || err != api.OK {
		t.Fatalf("%s\nwith %s: %v, %d, %d; want %v, %d", s.source, what, got, found, err, after, fault)
	}
}

// TestCharted holds the steps of charts against layer 7, by whose evolution they become active.
func TestCharted(t *testing.T) {
	t.Parallel()
	found := 0
	scans(3, 800, func(s *scanner, after []int, fault int) {
		body := s.p.Units[s.unit].Body
		if body.Lang != api.InChart || fault != api.FNone {
			return
		}
		flat, _ := chart.Flatten(body.Chart)
		var on []int
		for i, x := range flat.Trans {
			if v, _, _ := direct.Value(s.p, s.unit, s.cells, x.When); v == 1 {
				on = append(on, i)
			}
		}
		before, e1 := direct.Active(s.p, s.unit, s.cells)
		want, e2 := chart.Next(body.Chart, before, on)
		got, e3 := direct.Active(s.p, s.unit, after)
		if !slices.Equal(got, want) || e1 != api.OK || e2 != api.OK || e3 != api.OK {
			t.Fatalf("%s\nunit %d: %v makes %v active, behind %v; want %v", s.source, s.unit, s.cells, got, before, want)
		}
		found++
	})
	if found < 200 {
		t.Errorf("%d scans of charts", found)
	}
}

// TestPowered holds the first rungs of ladders against their paths, and the power of all rungs against the cells after a scan.
func TestPowered(t *testing.T) {
	t.Parallel()
	ladders, paths := 0, 0
	scans(4, 1200, func(s *scanner, after []int, fault int) {
		rungs := s.p.Units[s.unit].Body.Rungs
		if len(rungs) == 0 {
			return
		}
		power, err := direct.Power(s.p, s.unit, s.cells, s.now)
		if err != api.OK || fault != api.FNone && len(power) != 0 || fault == api.FNone && (len(power) != len(rungs) || slices.Min(power) < -1 || slices.Max(power) > 1 || power[0] < 0) {
			t.Fatalf("%s\nunit %d: Power(%v) = %v, %d", s.source, s.unit, s.cells, power, err)
		}
		if fault != api.FNone {
			return
		}
		ladders++
		if all, err := ladder.Paths(rungs[0].Power); err == api.OK {
			if want, is := s.flow(all); is {
				paths++
				if power[0] != want {
					t.Fatalf("%s\nunit %d: Power(%v) = %v; want %d", s.source, s.unit, s.cells, power, want)
				}
			}
		}
	})
	if ladders < 200 || paths < 40 {
		t.Errorf("%d ladders, %d of which with paths", ladders, paths)
	}
}

// flow returns 1 if power flows through one of some paths; false if this cannot be found out from their variables alone.
func (s *scanner) flow(paths [][]api.Power) (int, bool) {
	some := 0
	for _, path := range paths {
		all := 1
		for _, x := range path {
			v := 1
			e := api.Expr{Op: api.EName, S: x.Name}
			switch {
			case x.Op == api.PBox || x.Mark == api.MRise || x.Mark == api.MFall:
				return 0, false
			case x.Op == api.PCompare:
				e = x.Arg[0]
				if uses(e) {
					return 0, false
				}
				fallthrough
			case x.Op == api.PContact:
				v, _, _ = direct.Value(s.p, s.unit, s.cells, e)
			}
			if x.Mark == api.MNot {
				v = 1 - v
			}
			all &= v
		}
		some |= all
	}
	return some, true
}

// uses reports whether an expression uses an output of a block, which a box can have set before.
func uses(e api.Expr) bool {
	return e.Op == api.EField || slices.ContainsFunc(e.Args, uses)
}

// TestValues holds values against scans of a program that sets a variable to them, folded or not.
func TestValues(t *testing.T) {
	t.Parallel()
	found := map[int]int{}
	scans(15, 600, func(s *scanner, _ []int, _ int) {
		for _, x := range s.p.Units[s.unit].Body.Text {
			if x.Op != api.SSet || len(x.Index) > 0 {
				continue
			}
			want, fault, err := direct.Value(s.p, s.unit, s.cells, x.Args[0])
			if err != api.OK {
				t.Fatalf("%s\nValue: %d", s.source, err)
			}
			p := s.p
			p.Units = slices.Clone(p.Units)
			p.Units[s.unit].Body = api.Body{Lang: api.InText, Text: of(x)}
			after, foundInScan, err := direct.Scan(p, s.unit, s.cells, s.now)
			at, _ := project.Variable(p, s.unit, x.Name)
			starts, _, _, _ := types.Frame(p, s.unit)
			if err != api.OK || foundInScan != fault || fault == api.FNone && after[starts[at]] != want || fault != api.FNone && want != 0 {
				t.Fatalf("%s\n%v: %v, %d, %d; Value %d, %d", s.source, x, after, foundInScan, err, want, fault)
			}
			found[fault]++
			if fault != api.FNone {
				continue
			}
			folded, _ := eval.Fold(x.Args[0])
			if got, fault, err := direct.Value(s.p, s.unit, s.cells, folded); got != want || fault != api.FNone || err != api.OK {
				t.Fatalf("%s\n%v, folded: %d, %d, %d; want %d", s.source, x, got, fault, err, want)
			}
		}
	}, "st")
	if found[api.FNone] < 500 || found[api.FZero] < 20 || found[api.FIndex] < 5 {
		t.Errorf("%v", found)
	}
}

// TestNumbered checks that a diagram in its order has the same scans.
func TestNumbered(t *testing.T) {
	t.Parallel()
	found := 0
	scans(6, 600, func(s *scanner, after []int, fault int) {
		body := s.p.Units[s.unit].Body
		if body.Lang != api.InDiagram {
			return
		}
		found++
		p := s.p
		p.Units = slices.Clone(p.Units)
		p.Units[s.unit].Body.Nodes, _ = diagram.Numbered(body.Nodes)
		s.expect(t, "the nodes in their order", p, s.unit, s.now, after, fault)
		p.Units[s.unit].Body = api.Body{Lang: api.InLadder}
		if l, err := direct.Power(p, s.unit, nil, 0); len(l) != 0 || err == api.OK && len(s.cells) > 0 {
			t.Fatalf("Power = %v, %d", l, err)
		}
	})
	if found < 200 {
		t.Errorf("%d scans of diagrams", found)
	}
}

// spoil changes something in a value: often a name or a number into one that stands elsewhere.
func spoil(v reflect.Value, r *rand.Rand) {
	switch v.Kind() {
	case reflect.Struct:
		spoil(v.Field(r.Intn(v.NumField())), r)
	case reflect.Slice:
		switch n := v.Len(); {
		case n > 0 && r.Intn(8) > 0:
			spoil(v.Index(r.Intn(n)), r)
		case n > 0 && r.Intn(2) == 0:
			v.Set(v.Slice(0, n-1))
		default:
			v.Set(reflect.Append(v, reflect.Zero(v.Type().Elem())))
		}
	case reflect.String:
		v.SetString(strings.Fields("a b c d p0 f0 blk0 q et s0 ton abs none1 if X")[r.Intn(15)])
	case reflect.Int:
		v.SetInt(int64(of(-1, 0, 1, 2, 3, 4, 5, 10, 100, math.MinInt, math.MaxInt)[r.Intn(11)]))
	case reflect.Bool:
		v.SetBool(!v.Bool())
	}
}

// TestAnyProjects has projects, units, cells and times that are often not what they should be.
func TestAnyProjects(t *testing.T) {
	t.Parallel()
	r := rand.New(rand.NewSource(7))
	m := samples.New(r.Intn)
	found := map[api.Errno]int{}
	for range 1500 {
		p, source := m.Project()
		for range r.Intn(4) {
			spoil(reflect.ValueOf(&p).Elem(), r)
		}
		unit := r.Intn(len(p.Units)+2) - 1
		cells, _ := types.Initial(p, unit)
		if r.Intn(4) == 0 {
			spoil(reflect.ValueOf(&cells).Elem(), r)
		}
		now := of(0, 5, 100, api.MaxTime, api.MaxTime+1, -1)[r.Intn(6)]
		_, want := check.Check(p)
		if isWrong := want == api.OK && (now < 0 || now > api.MaxTime || !types.IsCells(p, unit, cells) || p.Units[unit].Kind == api.UFunction); isWrong {
			want = api.ErrArg
		}
		found[want]++
		after, fault, err := direct.Scan(p, unit, cells, now)
		if err != want || err != api.OK && len(after)+fault != 0 || err == api.OK && !types.IsCells(p, unit, after) {
			t.Fatalf("%s\nspoiled: %v\nunit %d, %v at %d: %v, %d, %d; want %d", source, p, unit, cells, now, after, fault, err, want)
		}
		_, _, _ = direct.Call(p, unit, cells)
		_, _, _ = direct.Run(p, unit, cells, of(cells), of(now))
		_, _ = direct.Power(p, unit, cells, now)
		_, _ = direct.Active(p, unit, cells)
	}
	for _, err := range of(api.OK, api.ErrArg, api.ErrName, api.ErrTwice, api.ErrKind) {
		if found[err] == 0 {
			t.Errorf("%d projects with the error %d", found[err], err)
		}
	}
}
