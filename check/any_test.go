package check_test

import (
	"math"
	"math/rand"
	"reflect"
	"slices"
	"strings"
	"testing"

	"winch/api"
	"winch/check"
	"winch/eval"
	"winch/internal/ebnf"
	"winch/project"
	"winch/types"
)

// sound has the sources of sound projects, in which all languages are.
func sound() []string {
	return []string{
		"block s input i bool; n int; output o bool; local t ton; k int; st t(in := i, pt := t#5); o := t.q and f(n, k) > 0; k := k + 1; end function f : int input a int; b int; local c int; st c := max(a, b); f := c + g(); end function g : int il ld 5; st g; end " +
			"program p input a bool at %i1; n int; output q bool at %q1; local v s; x int[3]; e time; m int; st v(i := a, n := x[n mod 3]); for m := 1 to 3 do x[m] := f(n, m); end_for; q := v.o; end task t every t#10 priority 1 run p;",
		"program p input a bool; local q bool; c ctu; il ld a; and( ; ld q; not; ); jmpc x; ret; x: ld a; cal c(cu := a, pv := 5); end program l local t tp; a bool; b bool; ld rung: +a & (b | /a) -> b; rung: box t(in, pt := t#5).q -> set a, -b; end task t every t#10 priority 1 run l, p;",
		"program d input n int; local m int; c ctd; fbd m := :2; 1: c(cd := :3, pv := n).cv; 2: add(:1, n); 3: gt(n, m); end program h input a bool; local q bool; n int; sfc initial step i do while q; step j macro m; from i to j when a; from j to i when n > 5; macro m(u, v) step u do enter (n := n + 1;); step v; from u to v when not a; end; end",
	}
}

// TestRenamed is about P10.3: a project remains sound when a variable is renamed, and uses the same variables.
func TestRenamed(t *testing.T) {
	const other = "twelve_bytes"
	for _, source := range sound() {
		p := read(t, source)
		order, err := check.Order(p)
		if err != api.OK {
			t.Fatalf("%q is not sound: %d", source, err)
		}
		for unit, u := range p.Units {
			sets, _ := check.Sets(p, unit)
			reads, _ := check.Reads(p, unit)
			for _, v := range u.Vars {
				q, err := project.Rename(p, unit, v.Name, other)
				if n, errOfCheck := check.Check(q); err != api.OK || n != len(p.Units) || errOfCheck != api.OK {
					if isMember(u, v) {
						// The name of an input or output of a block, or of its type, stands in other units, too.
						continue
					}
					t.Errorf("%q: %s renamed: %d, %d, %d", source, v.Name, err, n, errOfCheck)
				}
				renamed := func(l []string) string {
					return strings.Join(strings.Fields(strings.ReplaceAll(" "+strings.Join(l, "  ")+" ", " "+v.Name+" ", " "+other+" ")), " ")
				}
				expectUses(t, source, q, unit, renamed(sets), renamed(reads))
				if again, err := check.Order(q); !slices.Equal(again, order) || err != api.OK {
					t.Errorf("%q: Order %v, %d", source, again, err)
				}
			}
		}
	}
}

// isMember reports whether a variable of a unit can be named in others.
func isMember(u api.Unit, v api.Var) bool {
	return u.Kind == api.UBlock && (v.Class == api.VInput || v.Class == api.VOutput)
}

// TestAdded is about P10.3: a project remains sound when a sound unit is added.
func TestAdded(t *testing.T) {
	more := read(t, "program other1 input a bool; output q bool; st q := not a; end block other2 st end function other3 : time input f time; st other3 := f; end").Units
	for _, source := range sound() {
		for _, u := range more {
			before, after := read(t, source), read(t, source)
			before.Units = append(of(u), before.Units...)
			after.Units = append(after.Units, u)
			for _, p := range of(before, after) {
				if n, err := check.Check(p); n != len(p.Units) || err != api.OK {
					t.Errorf("%q with the unit %s: %d, %d", source, u.Name, n, err)
				}
			}
		}
	}
}

// checkAgreement holds the functions against each other, for any project.
func checkAgreement(t *testing.T, p api.Project) api.Errno {
	at, err := check.Check(p)
	order, errOfOrder := check.Order(p)
	switch {
	case err != errOfOrder || err == api.OK && at != len(p.Units) || err == api.ErrArg && at != 0 || at < 0 || at > len(p.Units)+len(p.Tasks):
		t.Errorf("Check of %v: %d, %d; Order %d", p, at, err, errOfOrder)
	case (project.Check(p) == api.OK) != (err != api.ErrArg):
		t.Errorf("Check of %v: %d, %d", p, at, err)
	}
	for unit := range p.Units {
		if errOfUnit := check.Unit(p, unit); errOfUnit != err {
			t.Errorf("Check of %v: %d, %d; Unit of %d: %d", p, at, err, unit, errOfUnit)
		}
		if err == api.OK {
			checkUses(t, p, unit, order)
		}
		kind, errOfExpr := check.Expr(p, unit, api.Expr{Op: api.EConst, Kind: api.KTime, N: 5})
		if errOfExpr == api.OK && kind != api.KTime || err == api.OK && errOfExpr != api.OK {
			t.Errorf("Expr(%v, %d) = %d, %d", p, unit, kind, errOfExpr)
		}
	}
	return err
}

// checkUses checks what is said of a unit of a sound project.
func checkUses(t *testing.T, p api.Project, unit int, order []int) {
	sets, e1 := check.Sets(p, unit)
	reads, e2 := check.Reads(p, unit)
	calls, e3 := check.Calls(p, unit)
	last := -1
	for _, name := range sets {
		at, err := project.Variable(p, unit, name)
		if v := p.Units[unit].Vars[at]; err != api.OK || at <= last || v.Class == api.VInput && v.Type.Kind != api.KBlock {
			t.Errorf("Sets(%v, %d) = %v", p, unit, sets)
		}
		last = at
	}
	for _, name := range reads {
		if _, err := project.Variable(p, unit, name); err != api.OK {
			t.Errorf("Reads(%v, %d) = %v", p, unit, reads)
		}
	}
	for _, at := range calls {
		if slices.Index(order, at) >= slices.Index(order, unit) || p.Units[at].Kind == api.UProgram {
			t.Errorf("Calls(%v, %d) = %v; Order %v", p, unit, calls, order)
		}
	}
	if e1 != api.OK || e2 != api.OK || e3 != api.OK || !slices.IsSorted(calls) {
		t.Errorf("Sets(%v, %d) %d, Reads %d, Calls %v, %d", p, unit, e1, e2, calls, e3)
	}
}

// TestRandomBodies has bodies of the grammars, whose names are those of variables of main.
func TestRandomBodies(t *testing.T) {
	grammar := ebnf.Parse(ebnf.Projects + ebnf.Lists + ebnf.Ladders + ebnf.Diagrams + ebnf.Charts + ebnf.Statements + ebnf.Expressions)
	r := rand.New(rand.NewSource(1))
	names := strings.Fields("a b n d q m e l k x y t1 c1 b1 in pt et cv o i")
	found := map[api.Errno]int{}
	for range 600 {
		words := grammar.Derive("body", 3+r.Intn(6), r.Intn)
		for i, w := range words {
			if len(w) == 1 && w[0] >= 'a' && w[0] <= 'z' {
				words[i] = names[r.Intn(len(names))]
			}
		}
		p, _, err := project.Read("program main " + variables + strings.Join(words, " ") + " end " + others)
		if err == api.OK {
			found[checkAgreement(t, p)]++
		}
	}
	for _, err := range of(api.OK, api.ErrName, api.ErrPlace, api.ErrKind) {
		if found[err] < 5 {
			t.Errorf("%d projects with the error %d", found[err], err)
		}
	}
}

// TestAnyProjects has projects in which any fields have any values.
func TestAnyProjects(t *testing.T) {
	r := rand.New(rand.NewSource(2))
	found := map[api.Errno]int{}
	for range 1500 {
		p := read(t, sound()[r.Intn(3)])
		for range 1 + r.Intn(2) {
			spoil(reflect.ValueOf(&p).Elem(), r)
		}
		found[checkAgreement(t, p)]++
		for _, unit := range of(-1, 0, 1, math.MaxInt) {
			cells, err := types.Layout(p, unit)
			if values, _ := types.Initial(p, unit); len(values) != len(cells) || err == api.OK && !types.IsCells(p, unit, values) {
				t.Errorf("Layout(%v, %d) = %v, %d; Initial %v", p, unit, cells, err, values)
			}
			_, _ = types.Depth(p, unit)
			_, _, _, _ = types.Frame(p, unit)
		}
		for _, u := range p.Units {
			for _, v := range u.Vars {
				_, _ = types.Size(p, v.Type)
			}
			for _, s := range u.Body.Text {
				for _, e := range s.Args {
					_, _ = eval.Fold(e)
					_, _ = check.Expr(p, 0, e)
				}
			}
		}
	}
	for _, err := range of(api.OK, api.ErrArg, api.ErrName, api.ErrTwice, api.ErrPlace, api.ErrKind) {
		if found[err] == 0 {
			t.Errorf("%d projects with the error %d", found[err], err)
		}
	}
}

// spoil changes something in a value: often a name or a number into one that stands elsewhere.
func spoil(v reflect.Value, r *rand.Rand) {
	switch v.Kind() {
	case reflect.Struct:
		spoil(v.Field(r.Intn(v.NumField())), r)
	case reflect.Slice:
		switch n := v.Len(); {
		case n > 0 && r.Intn(8) > 0:
			spoil(v.Index(r.Intn(n)), r)
		case n > 0 && r.Intn(2) == 0:
			v.Set(v.Slice(0, n-1))
		default:
			v.Set(reflect.Append(v, reflect.Zero(v.Type().Elem())))
		}
	case reflect.String:
		v.SetString(strings.Fields("a b n p q x t s f g m i ton abs %i1 %q1 none1 if X")[r.Intn(19)])
	case reflect.Int:
		v.SetInt(int64(of(-1, 0, 1, 2, 3, 4, 5, 10, math.MinInt, math.MaxInt)[r.Intn(10)]))
	case reflect.Bool:
		v.SetBool(!v.Bool())
	}
}
