package types_test

import (
	"fmt"
	"math/rand"
	"reflect"
	"slices"
	"strings"
	"testing"

	"winch/api"
	"winch/project"
	"winch/types"
)

// randomUnit returns the source of a unit, whose variables can be blocks with some names.
func randomUnit(r *rand.Rand, head string, blocks []string) string {
	var all strings.Builder
	for i := range r.Intn(5) {
		name := string(rune('a' + i))
		what := []string{"bool := true", "int := -3", "time", fmt.Sprint("int[", 1+r.Intn(5), "] := 1"), fmt.Sprint("bool[", 1+r.Intn(5), "] := false"), blocks[r.Intn(len(blocks))], blocks[r.Intn(len(blocks))]}[r.Intn(7)]
		all.WriteString([]string{"input ", "output ", "local ", "retain "}[r.Intn(4)] + name + " " + what + "; ")
	}
	body := []string{"st end", "il end", "fbd end", "ld rung: +a & -b -> q; end", "sfc initial step a macro m; step b; macro m(a, b) step a; step b; end; end"}[r.Intn(5)]
	return head + " " + all.String() + body + " "
}

// randomProject returns a project whose blocks may or may not be there, be blocks, and be rings.
func randomProject(t *testing.T, r *rand.Rand) api.Project {
	blocks := append(strings.Fields("b0 b1 b2 b3 ton ctu sr rtrig"), strings.Fields("p f none")[r.Intn(3)])
	source := randomUnit(r, "program p", blocks)
	for i := range 4 {
		// Most blocks have only later ones in them.
		inner := blocks[i+1:]
		if r.Intn(6) == 0 {
			inner = blocks
		}
		source += randomUnit(r, "block b"+string(rune('0'+i)), inner)
	}
	return read(t, source+"function f : int st end")
}

// TestPlans is about P9.3, and compares the functions with each other.
func TestPlans(t *testing.T) {
	r := rand.New(rand.NewSource(1))
	good := 0
	for range 1000 {
		p := randomProject(t, r)
		before, _ := project.Clone(p)
		for unit := range p.Units {
			cells, err := types.Layout(p, unit)
			if err != api.OK {
				expectError(t, "random", p, unit, err)
				continue
			}
			good++
			checkPlan(t, p, unit, cells)
		}
		if !reflect.DeepEqual(p, before) {
			t.Fatal("the project has been changed")
		}
	}
	if good < 3000 || good > 5800 {
		t.Errorf("%d good units", good)
	}
}

func checkPlan(t *testing.T, p api.Project, unit int, cells []api.Cell) {
	values, err := types.Initial(p, unit)
	if len(values) != len(cells) || err != api.OK || !types.IsCells(p, unit, values) {
		t.Fatalf("Initial = %v, %d; the cells are %v", values, err, cells)
	}
	starts, hidden, all, err := types.Frame(p, unit)
	if err != api.OK || all != len(cells) || !slices.IsSorted(append(slices.Clone(starts), hidden, all)) || len(starts) != len(p.Units[unit].Vars) {
		t.Fatalf("Frame = %v, %d, %d, %d; the cells are %v", starts, hidden, all, err, cells)
	}
	names := map[string]bool{}
	depth := 0
	for i, v := range p.Units[unit].Vars {
		size, err := types.Size(p, v.Type)
		end := append(slices.Clone(starts), hidden)[i+1]
		if err != api.OK || end != starts[i]+size {
			t.Fatalf("Size of %v: %d, %d; it is from %d to %d", v, size, err, starts[i], end)
		}
		for _, c := range cells[starts[i]:end] {
			if c.Var != i || c.Class != v.Class || names[c.Name] || c.Name != "" && !strings.HasPrefix(c.Name, v.Name) {
				t.Fatalf("the cell %v of the variable %v", c, v)
			}
			names[c.Name] = c.Name != ""
		}
		if v.Type.Kind == api.KBlock {
			depth = max(depth, 1+depthOf(p, v.Type.Block))
		}
	}
	for _, c := range cells[hidden:] {
		if c.Var != -1 || c.Class != api.VLocal || c.Name != "" || c.At != "" {
			t.Fatalf("the hidden cell %v", c)
		}
	}
	if got, err := types.Depth(p, unit); got != depth || err != api.OK {
		t.Fatalf("Depth = %d, %d; want %d", got, err, depth)
	}
}

// depthOf returns the depth of a block with a name.
func depthOf(p api.Project, name string) int {
	unit, err := project.Find(p, name)
	if _, is := types.Standard(name); is || err != api.OK {
		return 0
	}
	depth, _ := types.Depth(p, unit)
	return depth
}

// TestManyBlocks has blocks without cells, which are in each other more often than could be counted.
func TestManyBlocks(t *testing.T) {
	source := ""
	for i := range 15 {
		source += fmt.Sprint("block b", i, " local ", strings.ReplaceAll(words(12, "v# NEXT; "), "NEXT", fmt.Sprint("b", i+1)), "st end ")
	}
	p := read(t, source+"block b15 st end")
	for i := range p.Units[:15] {
		for len(p.Units[i].Vars) < api.MaxVars {
			v := p.Units[i].Vars[0]
			v.Name = fmt.Sprint("w", len(p.Units[i].Vars))
			p.Units[i].Vars = append(p.Units[i].Vars, v)
		}
	}
	expectFrame(t, p, 0, make([]int, 32), 0, 0, 15)
	p.Units[15].Vars = of(api.Var{Name: "x", Class: api.VLocal, Type: api.Type{Kind: api.KBlock, Block: "b3"}})
	expectError(t, "a ring of many", p, 0, api.ErrRing)
	p.Units[15].Vars = of(api.Var{Name: "x", Class: api.VLocal, Type: api.Type{Kind: api.KInt}})
	expectError(t, "many cells", p, 0, api.ErrFull)
	expectFrame(t, p, 14, func() (l []int) {
		for i := range 32 {
			l = append(l, i)
		}
		return l
	}(), 32, 32, 1)
}

// TestResultsAreNew checks that no result is kept.
func TestResultsAreNew(t *testing.T) {
	p := read(t, "program p local x int[3] := 1, 2, 3; a b; st end block b local n int := 4; st end")
	cells, _ := types.Layout(p, 0)
	values, _ := types.Initial(p, 0)
	starts, _, _, _ := types.Frame(p, 0)
	clear(cells)
	clear(values)
	clear(starts)
	if got := written(t, p, 0); got != "x[0] il 0=1, x[1] il 0=2, x[2] il 0=3, a.n il 1=4" || p.Units[0].Vars[0].Init[0] != 1 {
		t.Error(got)
	}
	expectFrame(t, p, 0, of(0, 3), 4, 4, 1)
}
