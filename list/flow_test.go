package list_test

import (
	"math/rand"
	"reflect"
	"slices"
	"testing"

	"winch/api"
	"winch/list"
)

func TestFlow(t *testing.T) {
	for _, x := range []struct {
		source  string
		blocks  [][]int
		reached []int
	}{
		{"", nil, nil},
		{"not;", [][]int{{0}}, []int{0}},
		{"x: not;", [][]int{{0}}, []int{0}},
		{"ld a; st b; cal f; not;", [][]int{{0, 1, 2, 3}}, []int{0, 1, 2, 3}},
		{"ld a; x: st b; y: not;", [][]int{{0}, {1}, {2}}, []int{0, 1, 2}},
		{"ld a; jmp x; st b; x: st c;", [][]int{{0, 1}, {2}, {3}}, []int{0, 1, 3}},
		{"ld a; jmpc x; st b; x: st c;", [][]int{{0, 1}, {2}, {3}}, []int{0, 1, 2, 3}},
		{"ld a; jmpcn x; st b; not; x: st c;", [][]int{{0, 1}, {2, 3}, {4}}, []int{0, 1, 2, 3, 4}},
		{"ret; not; not;", [][]int{{0}, {1, 2}}, []int{0}},
		{"retc; not; not;", [][]int{{0}, {1, 2}}, []int{0, 1, 2}},
		{"not; retcn; not;", [][]int{{0, 1}, {2}}, []int{0, 1, 2}},
		{"not; ret;", [][]int{{0, 1}}, []int{0, 1}},
		{"x: not; jmp x;", [][]int{{0, 1}}, []int{0, 1}},
		{"x: not; jmp x; not;", [][]int{{0, 1}, {2}}, []int{0, 1}},
		{"x: jmp x; y: jmp y;", [][]int{{0}, {1}}, []int{0}},
		{"jmp z; x: not; ret; y: not; jmp x; z: not; jmp y; st a;", [][]int{{0}, {1, 2}, {3, 4}, {5, 6}, {7}}, []int{0, 1, 2, 3, 4, 5, 6}},
		{"jmpc z; ret; x: not; retc; y: not; jmpcn x; z: not; jmp z;", [][]int{{0}, {1}, {2, 3}, {4, 5}, {6, 7}}, []int{0, 1, 6, 7}},
		{"ret; x: not; jmp x;", [][]int{{0}, {1, 2}}, []int{0}},
		{"ld a; jmpc x; jmpc y; jmp z; x: ret; y: ret; z: ret; not;", [][]int{{0, 1}, {2}, {3}, {4}, {5}, {6}, {7}}, []int{0, 1, 2, 3, 4, 5, 6}},
		{"ld a; and(; ld b; or(; ld c; ); ); st q;", [][]int{{0, 1, 2, 3, 4, 5, 6, 7}}, []int{0, 1, 2, 3, 4, 5, 6, 7}},
		{"jmp x; and(; ld b; ); x: and(; ld b; );", [][]int{{0}, {1, 2, 3}, {4, 5, 6}}, []int{0, 4, 5, 6}},
		{"calc f; calcn f; not;", [][]int{{0, 1, 2}}, []int{0, 1, 2}},
	} {
		l := lines(t, x.source)
		blocks, e := list.Blocks(l)
		reached, f := list.Reached(l)
		if e != api.OK || !reflect.DeepEqual(blocks, x.blocks) {
			t.Errorf("Blocks of %q: %v, %d; want %v", x.source, blocks, e, x.blocks)
		}
		if f != api.OK || !slices.Equal(reached, x.reached) {
			t.Errorf("Reached of %q: %v, %d; want %v", x.source, reached, f, x.reached)
		}
	}
}

// next returns the positions of the lines that follow a line at once.
func next(l []api.Line, at int) []int {
	var all []int
	x := l[at]
	if x.Op == api.LJump {
		all = append(all, slices.IndexFunc(l, func(y api.Line) bool { return y.Label == x.Name }))
	}
	if at+1 < len(l) && (x.Op != api.LJump && x.Op != api.LRet || x.Cond != 0) {
		all = append(all, at+1)
	}
	return all
}

// modelReached adds what follows what is reached, until nothing is new.
func modelReached(l []api.Line) []int {
	reached := map[int]bool{}
	if len(l) > 0 {
		reached[0] = true
	}
	for before := -1; before != len(reached); {
		before = len(reached)
		for i := range l {
			if reached[i] {
				for _, n := range next(l, i) {
					reached[n] = true
				}
			}
		}
	}
	var all []int
	for i := range l {
		if reached[i] {
			all = append(all, i)
		}
	}
	return all
}

func TestFlowOfAnyList(t *testing.T) {
	r := rand.New(rand.NewSource(6))
	parts := someParts(t)
	for range 10000 {
		l := randomList(r, parts)
		reached, err := list.Reached(l)
		if err != list.Check(l) {
			t.Fatalf("Reached(%v): %d", l, err)
		}
		if err != api.OK {
			continue
		}
		if want := modelReached(l); !slices.Equal(reached, want) {
			t.Fatalf("Reached(%v) = %v; want %v", l, reached, want)
		}
		blocks, _ := list.Blocks(l)
		n := 0
		for _, block := range blocks {
			for i, at := range block {
				begins := at == 0 || l[at].Label != "" || l[at-1].Op == api.LJump || l[at-1].Op == api.LRet
				if at != n || begins != (i == 0) {
					t.Fatalf("Blocks(%v) = %v", l, blocks)
				}
				n++
			}
		}
		if n != len(l) {
			t.Fatalf("Blocks(%v) = %v", l, blocks)
		}
	}
}

func TestLongFlow(t *testing.T) {
	l := slices.Repeat(of(api.Line{Op: api.LNot}), 500)
	l[0] = api.Line{Op: api.LJump, Name: "x"}
	l[499] = api.Line{Label: "x", Op: api.LRet, Cond: 1}
	if reached, err := list.Reached(l); !slices.Equal(reached, of(0, 499)) || err != api.OK {
		t.Errorf("Reached = %v, %d", reached, err)
	}
	if blocks, err := list.Blocks(l); len(blocks) != 3 || len(blocks[1]) != 498 || err != api.OK {
		t.Errorf("Blocks = %v, %d", blocks, err)
	}
}
