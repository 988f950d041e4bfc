package compile_test

import (
	"math/rand"
	"slices"
	"testing"

	"winch/api"
	"winch/check"
	"winch/code"
	"winch/compile"
	"winch/direct"
	"winch/internal/samples"
	"winch/machine"
	"winch/project"
	"winch/types"
)

func of[T any](l ...T) []T { return l }

// read returns the project of a source.
func read(t *testing.T, source string) api.Project {
	t.Helper()
	p, at, err := project.Read(source)
	if err != api.OK {
		t.Fatalf("Read(%q): %d, %d", source, at, err)
	}
	return p
}

// text returns the text of a project.
func text(p api.Project) string {
	s, _ := project.Text(p)
	return s
}

// runner compares the two roads, and counts what is found: late are scans that end with FFuel by one road alone.
type runner struct {
	*samples.Maker
	scans, calls, late int
	faults             map[int]int
}

func newRunner(seed int64) *runner {
	return &runner{Maker: samples.New(rand.New(rand.NewSource(seed)).Intn), faults: map[int]int{}}
}

func (r *runner) expectFound(t *testing.T, scans, late, zeros, indexes int) {
	t.Helper()
	if r.scans < scans || r.late > late || r.faults[api.FZero] < zeros || r.faults[api.FIndex] < indexes {
		t.Errorf("%d scans, %d calls, %d late ones, faults %v", r.scans, r.calls, r.late, r.faults)
	}
}

// compiled returns the code of a project, and checks its units.
func compiled(t *testing.T, p api.Project) api.Code {
	t.Helper()
	c, err := compile.Compile(p)
	if err != api.OK || code.Check(c) != api.OK {
		t.Fatalf("%s\nCompile: %d; Check: %d", text(p), err, code.Check(c))
	}
	if len(c.Units) != len(p.Units) {
		t.Fatalf("%s\nhas %d units of code", text(p), len(c.Units))
	}
	sizes, err := compile.Sizes(p)
	if len(sizes) != len(p.Units) || err != api.OK {
		t.Fatalf("%s\nSizes: %v, %d", text(p), sizes, err)
	}
	for unit, u := range p.Units {
		at, err := compile.Unit(p, unit)
		if err != api.OK || at < 0 || at >= len(c.Units) || c.Units[at].Name != u.Name || c.Units[at].Kind != u.Kind || sizes[unit] != len(c.Units[at].Code) {
			t.Fatalf("%s\nUnit(%d) = %d, %d; sizes %v", text(p), unit, at, err, sizes)
		}
		args, layout := 0, len(layoutOf(p, unit))
		for _, v := range u.Vars {
			if u.Kind == api.UFunction && v.Class == api.VInput {
				args++
			}
		}
		if c.Units[at].Args != args || u.Kind != api.UFunction && c.Units[at].Cells != layout {
			t.Fatalf("%s\nunit %d has %d cells and %d args", text(p), unit, c.Units[at].Cells, c.Units[at].Args)
		}
		calls, _ := check.Calls(p, unit)
		for _, called := range calls {
			if before, _ := compile.Unit(p, called); before >= at {
				t.Fatalf("%s\nunit %d is at %d, and unit %d, which it needs, at %d", text(p), unit, at, called, before)
			}
		}
	}
	return c
}

func layoutOf(p api.Project, unit int) []api.Cell {
	layout, _ := types.Layout(p, unit)
	return layout
}

// agree compiles a project, and compares scans and calls of all its units, several times in a row.
func (r *runner) agree(t *testing.T, p api.Project, runs int) api.Code {
	t.Helper()
	c := compiled(t, p)
	for unit, u := range p.Units {
		at, _ := compile.Unit(p, unit)
		for range runs {
			if u.Kind == api.UFunction {
				r.compareCalls(t, p, c, unit, at)
			} else {
				r.compareScans(t, p, c, unit, at)
			}
		}
	}
	return c
}

// compareScans compares some scans that come one after the other, from the initial cells on, or from any cells.
func (r *runner) compareScans(t *testing.T, p api.Project, c api.Code, unit, at int) {
	t.Helper()
	cells, _ := types.Initial(p, unit)
	if r.Choose(2) == 0 {
		cells = r.Cells(p, unit)
	}
	inputs, _ := direct.Inputs(p, unit)
	layout := layoutOf(p, unit)
	now := r.Choose(50)
	for range 6 {
		for _, i := range inputs {
			if layout[i].Var >= 0 && p.Units[unit].Vars[layout[i].Var].Type.Kind != api.KBlock {
				cells[i] = r.Value(layout[i].Kind)
			}
		}
		want, fault, e1 := direct.Scan(p, unit, cells, now)
		got, found, e2 := machine.Scan(c, at, cells, now)
		if e1 != api.OK || e2 != api.OK {
			t.Fatalf("%s\nunit %d, %v: Scan: %d, %d", text(p), unit, cells, e1, e2)
		}
		r.faults[fault]++
		r.scans++
		if fault == api.FFuel || found == api.FFuel {
			if fault != found {
				r.late++
			}
			return
		}
		if !slices.Equal(got, want) || found != fault {
			lines, _ := compile.Lines(p)
			t.Fatalf("%s\nunit %d, %v at %d: %v, %d; want %v, %d\n%v", text(p), unit, cells, now, got, found, want, fault, lines)
		}
		if fault != api.FNone {
			return
		}
		cells = want
		now += r.Choose(40)
	}
}

func (r *runner) compareCalls(t *testing.T, p api.Project, c api.Code, unit, at int) {
	t.Helper()
	var args []int
	for _, v := range p.Units[unit].Vars {
		if v.Class == api.VInput {
			args = append(args, r.Value(v.Type.Kind))
		}
	}
	want, fault, e1 := direct.Call(p, unit, args)
	got, found, e2 := machine.Call(c, at, args)
	r.calls++
	r.faults[fault]++
	switch {
	case e1 != api.OK || e2 != api.OK:
		t.Fatalf("%s\nunit %d, %v: Call: %d, %d", text(p), unit, args, e1, e2)
	case fault == api.FFuel || found == api.FFuel:
		if fault != found {
			r.late++
		}
	case got != want || found != fault:
		t.Fatalf("%s\nunit %d, %v: %d, %d; want %d, %d", text(p), unit, args, got, found, want, fault)
	}
}
