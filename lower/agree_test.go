package lower_test

import (
	"math/rand"
	"reflect"
	"slices"
	"testing"

	"winch/api"
	"winch/check"
	"winch/direct"
	"winch/internal/samples"
	"winch/project"
	"winch/types"
)

func of[T any](l ...T) []T { return l }

// read returns the project of a source.
func read(t *testing.T, source string) api.Project {
	t.Helper()
	p, at, err := project.Read(source)
	if err != api.OK {
		t.Fatalf("Read(%q): %d, %d", source, at, err)
	}
	return p
}

// text returns the text of a project.
func text(p api.Project) string {
	s, _ := project.Text(p)
	return s
}

// runner makes runs of the units of projects with random inputs and times, and counts what is found in them. Late are those that
// end with FFuel only in the other project: chapter 14 allows for them, but there must be none in which there are not many steps.
type runner struct {
	*samples.Maker
	scans, late int
	faults      map[int]int
}

func newRunner(seed int64) *runner {
	return &runner{Maker: samples.New(rand.New(rand.NewSource(seed)).Intn), faults: map[int]int{}}
}

// agree checks that a project agrees with p, as chapter 14 says, in so many runs of each program and block.
func (r *runner) agree(t *testing.T, p, q api.Project, runs int) {
	t.Helper()
	if _, err := check.Check(q); err != api.OK {
		t.Fatalf("%s\nbecomes what is not sound (%d):\n%s", text(p), err, text(q))
	}
	if !project.Same(heads(p, p), heads(q, p)) {
		t.Fatalf("%s\nhas other units, variables or tasks than\n%s", text(q), text(p))
	}
	for unit, u := range p.Units {
		hasInput := func(v api.Var) bool { return v.Class == api.VInput && v.Type.Kind == api.KBlock }
		if u.Kind == api.UFunction || slices.ContainsFunc(u.Vars, hasInput) {
			continue
		}
		for range runs {
			r.run(t, p, q, unit)
		}
	}
}

// heads returns a project without bodies, and, of each unit, with no more variables than the unit of another one.
func heads(p, like api.Project) api.Project {
	h := api.Project{Tasks: p.Tasks}
	for i, u := range p.Units {
		u.Body = api.Body{}
		if i < len(like.Units) && len(u.Vars) > len(like.Units[i].Vars) {
			u.Vars = u.Vars[:len(like.Units[i].Vars)]
		}
		h.Units = append(h.Units, u)
	}
	return h
}

// run checks that a run of a unit with random inputs is the same in two projects.
func (r *runner) run(t *testing.T, p, q api.Project, unit int) {
	t.Helper()
	layout, _ := types.Layout(p, unit)
	positions, _ := direct.Inputs(p, unit)
	var inputs [][]int
	var times []int
	now := r.Choose(50)
	for range 8 {
		var l []int
		for _, at := range positions {
			l = append(l, r.Value(layout[at].Kind))
		}
		inputs, times = append(inputs, l), append(times, now)
		now += r.Choose(9)
	}
	r.compare(t, p, q, unit, inputs, times)
}

// compare checks that a run of a unit is the same in two projects.
func (r *runner) compare(t *testing.T, p, q api.Project, unit int, inputs [][]int, times []int) {
	t.Helper()
	first, _ := types.Initial(p, unit)
	other, _ := types.Initial(q, unit)
	want, fault, e1 := direct.Run(p, unit, first, inputs, times)
	got, found, e2 := direct.Run(q, unit, other, inputs, times)
	if e1 != api.OK || e2 != api.OK {
		t.Fatalf("%s\n%s\nRun: %d, %d", text(p), text(q), e1, e2)
	}
	r.faults[fault]++
	for i := range min(len(want), len(got)) {
		r.scans++
		if l, m := named(p, unit, want[i]), named(q, unit, got[i]); !isPart(l, m) {
			t.Fatalf("%s\nbecomes\n%s\nunit %d with %v at %v: %v; want %v", text(p), text(q), unit, inputs[:i+1], times[:i+1], m, l)
		}
	}
	if found == api.FFuel && fault != api.FFuel {
		r.late++
	}
	if isFuel := fault == api.FFuel || found == api.FFuel; !isFuel && (len(want) != len(got) || fault != found) {
		t.Fatalf("%s\nbecomes\n%s\nunit %d with %v at %v: %d scans and the fault %d; want %d, %d", text(p), text(q), unit, inputs, times, len(got), found, len(want), fault)
	}
}

// named returns the values of the cells of a unit that have names.
func named(p api.Project, unit int, cells []int) map[string]int {
	layout, _ := types.Layout(p, unit)
	all := map[string]int{}
	for i, c := range layout {
		if c.Name != "" {
			all[c.Name] = cells[i]
		}
	}
	return all
}

// isPart reports whether a map has all that is in another one.
func isPart(l, m map[string]int) bool {
	for name, n := range l {
		if other, known := m[name]; !known || other != n {
			return false
		}
	}
	return true
}

// made checks what a function has made of a project: it is sound and new, and agrees with it.
func (r *runner) made(t *testing.T, p api.Project, make func(p api.Project) (api.Project, api.Errno), runs int) api.Project {
	t.Helper()
	before, _ := project.Clone(p)
	q, err := make(p)
	if err != api.OK {
		t.Fatalf("%s\ncan't be made anew: %d", text(p), err)
	}
	if !project.Same(p, before) {
		t.Fatalf("%s\nwas changed into\n%s", text(before), text(p))
	}
	there := map[uintptr]bool{}
	slicesOf(reflect.ValueOf(p), func(at uintptr) { there[at] = true })
	slicesOf(reflect.ValueOf(q), func(at uintptr) {
		if there[at] {
			t.Fatalf("%s\nshares memory in itself, or with\n%s", text(q), text(p))
		}
		there[at] = true
	})
	r.agree(t, p, q, runs)
	return q
}

// expectFound checks how much has been found in runs.
func (r *runner) expectFound(t *testing.T, scans, late, zeros, indexes int) {
	t.Helper()
	if r.scans < scans || r.late > late || r.faults[api.FZero] < zeros || r.faults[api.FIndex] < indexes {
		t.Errorf("%d scans, %d late ones, faults %v", r.scans, r.late, r.faults)
	}
}

// slicesOf visits where the members of the lists in a value are.
func slicesOf(v reflect.Value, visit func(at uintptr)) {
	switch v.Kind() {
	case reflect.Struct:
		for i := range v.NumField() {
			slicesOf(v.Field(i), visit)
		}
	case reflect.Slice:
		if v.Len() > 0 {
			visit(v.Pointer())
		}
		for i := range v.Len() {
			slicesOf(v.Index(i), visit)
		}
	}
}

// languages returns the languages of all bodies.
func languages(p api.Project) []int {
	var l []int
	for _, u := range p.Units {
		l = append(l, u.Body.Lang)
	}
	return l
}
