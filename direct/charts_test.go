package direct_test

import (
	"slices"
	"testing"

	"winch/api"
	"winch/direct"
)

func TestCharts(t *testing.T) {
	const vars = "input a bool; b bool; local q bool; r bool; s bool; m int; n int; k int; c ctu; t ton; sfc "
	of := func(chart, runs, want string) run { return run{vars + chart + " end", runs, want} }
	expectRuns(t, []run{
		of("initial step i;", "0 0", "m=0"),
		of("initial step i do enter (m := m + 1;) do while q; step j do while r; from i to j when a; from j to i when b;", "0 0 | 0 0 | 1 0 | 1 0 | 0 1", "m=1 q=1 r=0 | m=1 q=1 r=0 | m=1 q=0 r=1 | m=1 q=0 r=1 | m=2 q=1 r=0"),
		// An initial step from which a transition fires in the first scan leaves, and has not been entered.
		of("initial step i do enter (m := m + 1;) do leave (n := n + 1;) do while q; step j do enter (k := k + 1;); from i to j when a;", "1 0 | 1 0", "m=0 n=1 k=1 q=0 | m=0 n=1 k=1 q=0"),
		// A step that was taken, and is given again, enters and does not leave.
		of("initial step i do enter (m := m + 1;) do leave (n := n + 1;) do limit_ t#10 q; from i to i when a;", "0 0 | @9 0 0 | @10 0 0 | @11 1 0 | @20 0 0 | @21 0 0", "m=1 q=1 | m=1 q=1 | m=1 q=0 | m=2 n=0 q=1 | m=2 q=1 | m=2 q=0"),
		// One that is active, and is given without having been taken, does not enter; but it does in its first scan.
		of("initial step i do enter (m := m + 1;) do delay t#5 q; initial step j do leave r; from j to i when a;", "0 0 | @5 1 0", "m=1 r=0 q=0 | m=1 r=1 q=1"), of("initial step i do enter (m := m + 1;); initial step j do leave r; from j to i when a;", "1 0 | 1 0", "m=1 r=1 | m=1 r=0"),
		// Times.
		of("initial step i do limit_ t#10 q do delay t#10 r do delay t#0 s; step j; from i to j when a;", "@5 0 0 | @14 0 0 | @15 0 0 | @1000000000 0 0 | @1000000000 1 0", "q=1 r=0 s=1 | q=1 r=0 s=1 | q=0 r=1 s=1 | q=0 r=1 s=1 | q=0 r=0 s=0"), of("initial step i do limit_ t#10 (m := m + 1;) do delay t#10 (n := n + 1;) do limit_ t#0 q;", "@3 0 0 | @12 0 0 | @13 0 0 | @50 0 0", "m=1 n=0 q=0 | m=2 n=0 q=0 | m=2 n=1 q=0 | m=2 n=2 q=0"), of("initial step i; step j do delay t#5 q; from i to j when a; from j to i when b;", "0 0 | @7 1 0 | @11 0 0 | @12 0 0 | @13 0 1 | @14 1 0 | @18 0 0", "q=0 | q=0 | q=0 | q=1 | q=0 | q=0 | q=0"),
		// What is set remains, and what is on for a time is cleared before all actions.
		of("initial step i do set q do reset r; step j do reset q do set r; from i to j when a; from j to i when b;", "0 0 | 1 0 | 0 0 | 0 1", "q=1 r=0 | q=0 r=1 | q=0 r=1 | q=1 r=0"), of("initial step i do set q; step j; from i to j when a;", "0 0 | 1 0 | 0 0", "q=1 | q=1 | q=1"), of("step j do while q; initial step i do while q do while r; from i to j when a; from j to i when b;", "0 0 | 1 0 | 1 0 | 0 1", "q=1 r=1 | q=1 r=0 | q=1 r=0 | q=1 r=1"), of("initial step i do set q; step j do enter q; from i to j when a;", "0 0 | 0 0 | 1 0 | 0 0", "q=1 | q=1 | q=1 | q=0"), of("initial step i do while q do while (q := false;) do while (r := q;);", "0 0", "q=0 r=0"), of("initial step i do set q do set r do set s; step j do limit_ t#1 q do delay t#1 r do leave s; from i to j when a;", "0 0 | 1 0 | @1 0 0", "q=1 r=1 s=1 | q=1 r=0 s=0 | q=0 r=1 s=0"),
		of("initial step i do enter q do leave r; step j do enter s; from i to j when a; from j to i when b;", "0 0 | 0 0 | 1 0 | 0 0 | 0 1", "q=1 r=0 s=0 | q=0 r=0 s=0 | q=0 r=1 s=1 | q=0 r=0 s=0 | q=1 r=0 s=0"),
		// Actions come in the order of the steps and of their actions.
		of("initial step i do leave (m := m * 10 + 1;); step j do enter (m := m * 10 + 2;) do while (n := m;); from i to j when a;", "1 0", "m=12 n=12"), of("step j do enter (m := m * 10 + 2;) do while (n := m;); initial step i do leave (m := m * 10 + 1;); from i to j when a;", "1 0", "m=21 n=2"), of("initial step i do while (m := m + 1; n := n + m;) do while (if m > 1 then k := n; end_if;);", "0 0 | 0 0", "m=1 n=1 k=0 | m=2 n=3 k=3"),
		// All conditions are computed, with the variables as they were.
		of("initial step i do while (m := m + 1;); step j do while q; from i to j when m > 1;", "0 0 | 0 0 | 0 0", "m=1 q=0 | m=2 q=0 | m=2 q=1"), of("initial step i do while q; step j do while r; from i to j when q; from j to i when q;", "0 0 | 0 0 | 0 0", "q=1 r=0 | q=0 r=1 | q=0 r=1"), of("initial step i do while (m := 1;); step j; from j to i when 1 / m = 1;", "0 0", "!1"), of("initial step i do while (m := m + 1;); step j; from i to j when 6 / (m - 2) = 1;", "0 0 | 0 0 | 0 0", "m=1 | m=2 | !1"),
		// Transitions of several steps, and of one.
		of("initial step i; step j do while q; step l do while r; step z do while s; from i to j, l when a; from j, l to z when b; from z to i when true;", "0 1 | 1 1 | 0 0 | 0 1 | 0 0", "q=0 r=0 s=0 | q=1 r=1 s=0 | q=1 r=1 s=0 | q=0 r=0 s=1 | q=0 r=0 s=0"), of("initial step i; step j do while q; step l do while r; from i to j when a; from i to l when true;", "1 0", "q=1 r=0"), of("initial step i; step j do while q; step l do while r; from i to j when a; from i to l when true;", "0 0", "q=0 r=1"), of("initial step i; initial step j; step l do while q; step z do while r; from i, j to l when a; from j to z when b;", "0 1 | 1 0", "q=0 r=1 | q=0 r=1"), of("initial step i; initial step j; step l do while q; step z do while r; from i, j to l when a; from j to z when b;", "1 1", "q=1 r=0"), of("initial step i; step j do while q; from i to j when true; from j to i when true;", "0 0 | 0 0 | 0 0", "q=1 | q=0 | q=1"),
		of("initial step i macro x; step z do while r; macro x(u, v) step u do while q; step v do while s; from u to v when a; end; from i to z when b;", "0 1 | 1 0 | 0 1", "q=1 r=0 s=0 | q=0 r=0 s=1 | q=0 r=1 s=0"),
		of("initial step i do while (while true do m := m + 1; if m mod 5 = 0 then exit; end_if; end_while; k := k + 1;);", "0 0 | 0 0", "m=5 k=1 | m=10 k=2"), of("initial step i do while (c(cu := a, pv := 2); t(in := b, pt := t#5); q := t.q; m := c.cv;);", "1 1 | @5 0 1 | @6 1 0", "m=1 q=0 | m=1 q=1 | m=2 q=0"), of("initial step i do while (m := 1;) do enter (n := 1 / k;);", "0 0", "!1"),
	})
	expectRuns(t, []run{
		// A chart in a block that is not executed in every scan.
		{"input a bool; g bool; local k e; m int; st if g then k(a := a); end_if; m := k.m; end block e input a bool; output m int; sfc initial step i do enter (m := m + 1;) do delay t#5 (m := m + 10;); step j; from i to j when a; from j to i when not a; end", "0 0 | @3 0 1 | @7 0 1 | @8 0 1 | @9 1 0 | @10 1 1 | @11 0 1", "m=0 | m=1 | m=1 | m=11 | m=11 | m=11 | m=12"},
	})
}

// TestHiddenCells has charts whose hidden cells could be, but have not become what they are in a scan.
func TestHiddenCells(t *testing.T) {
	p := read(t, "program p input a bool; local q bool; r bool; s bool; sfc initial step i do enter q do limit_ t#10 s; step j do leave r; from j to i when a; end")
	for _, x := range []struct {
		before []int
		now    int
		want   []int
	}{
		// The cells are a, q, r, s, the states of i and j, and since when they are active.
		{of(0, 1, 1, 1, 5, 0, 0, 0), 9, of(0, 0, 0, 1, 1, 0, 0, 0)}, {of(0, 0, 0, 0, 2, 0, 3, 4), 9, of(0, 1, 0, 1, 1, 0, 9, 4)}, {of(0, 0, 0, 0, -1, -7, 9, 0), 9, of(0, 0, 0, 1, 1, 1, 9, 0)}, {of(1, 0, 0, 0, 0, 2, 3, 4), 9, of(1, 1, 1, 1, 1, 0, 9, 4)}, {of(0, 0, 0, 0, 0, 2, 3, 4), 9, of(0, 0, 0, 0, 0, 1, 3, 9)}, {of(1, 0, 0, 0, 0, 0, 3, 4), 9, of(1, 0, 0, 0, 0, 0, 3, 4)},
		// The time that has gone by is wrapped.
		{of(0, 0, 0, 0, 1, 0, -1<<31, 0), 9, of(0, 0, 0, 1, 1, 0, -1<<31, 0)}, {of(0, 0, 0, 0, 1, 0, 1<<31-1, 0), 0, of(0, 0, 0, 1, 1, 0, 1<<31-1, 0)}, {of(0, 0, 0, 0, 1, 0, -1<<31+api.MaxTime, 0), api.MaxTime - 1, of(0, 0, 0, 0, 1, 0, -1<<31+api.MaxTime, 0)}, {of(0, 0, 0, 0, 1, 0, -1, 0), 8, of(0, 0, 0, 1, 1, 0, -1, 0)}, {of(0, 0, 0, 0, 1, 0, -1, 0), 9, of(0, 0, 0, 0, 1, 0, -1, 0)},
	} {
		before := slices.Clone(x.before)
		got, fault, err := direct.Scan(p, 0, x.before, x.now)
		if !slices.Equal(got, x.want) || fault != api.FNone || err != api.OK || !slices.Equal(x.before, before) {
			t.Errorf("Scan(%v, %d) = %v, %d, %d; want %v", before, x.now, got, fault, err, x.want)
		}
	}
}
