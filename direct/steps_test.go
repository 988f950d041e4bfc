package direct_test

import (
	"fmt"
	"slices"
	"testing"

	"winch/api"
	"winch/direct"
)

// waiting returns a project whose program executes a block with a body after a number of steps, apart from the two of its call, and
// ends then.
func waiting(t *testing.T, body string, steps int) api.Project {
	t.Helper()
	return read(t, fmt.Sprint("program p local i int; k b; st for i := 1 to ", steps-2, " do end_for; k(); end ",
		"block b input a bool := true; n int := 3; output q bool; local m int; i int; c ctu; t e; ", body, " end block e output n int; st n := 1; end function f : int input x int; st f := x; end"))
}

// TestSteps has bodies with the number of their steps.
func TestSteps(t *testing.T) {
	for _, x := range []struct {
		body  string
		steps int
	}{
		{"st", 0}, {"st m := 1;", 1}, {"st m := 1; m := 2;", 2}, {"st m := max(1, 2) + n;", 1}, {"st c();", 2}, {"st t();", 3}, {"st t(); c(cu := a, pv := n);", 5}, {"st m := f(1);", 3}, {"st m := f(f(1)) + f(n);", 7}, {"st return; m := 1;", 1},
		{"st if a then m := 1; end_if;", 3}, {"st if not a then m := 1; end_if;", 2}, {"st if not a then elsif a then elsif a then end_if;", 3}, {"st if not a then elsif not a then else m := 1; end_if;", 4}, {"st if f(1) = 1 then end_if;", 4}, {"st case n of 1: 2: 3: m := 1; 4: end_case;", 5}, {"st case n of 1: 2: else m := 1; end_case;", 4}, {"st case n of else end_case;", 1}, {"st case n of 1, 2, 3, 4: end_case;", 2},
		{"st for i := 1 to n do m := 1; end_for;", 8}, {"st for i := 1 to 0 do m := 1; end_for;", 2}, {"st for i := 2147483646 to 2147483647 do end_for;", 3}, {"st for i := 0 to -1 by -2147483647 do end_for;", 3}, {"st for i := 0 to -2147483647 by -2147483647 do end_for;", 3}, {"st for i := 1 to n do exit; end_for;", 3}, {"st for i := f(1) to f(2) do end_for;", 8}, {"st while m < 2 do m := m + 1; end_while;", 6}, {"st while a do exit; end_while;", 3}, {"st repeat m := m + 1; until m = 2 end_repeat;", 5}, {"st repeat exit; until a end_repeat;", 2}, {"st repeat return; until a end_repeat; m := 1;", 2},
		{"il", 0}, {"il ld a; st q;", 2}, {"il ld 1; add( ; ld 2; ); st m;", 5}, {"il ld a; jmpc x; ld 1; x: ret;", 3}, {"il ld a; jmpcn x; ld 1; x: ret;", 4}, {"il cal c;", 2}, {"il ld a; calcn c;", 2}, {"il ld a; calc t;", 4}, {"il ld f(1); st m;", 4}, {"il ret; ld 1;", 1}, {"il l: ld m; add 1; st m; lt 3; jmpc l;", 15},
		{"ld", 0}, {"ld rung: a -> q;", 2}, {"ld rung: true -> q, /q;", 3}, {"ld rung: a & a -> q;", 4}, {"ld rung: a | a & [a] -> q;", 6}, {"ld rung: (a | a) & (a | a & (a & a)) -> +q;", 12}, {"ld rung: box c(cu).q -> set q;", 3}, {"ld rung: [f(1) = 1] -> q;", 4}, {"ld rung: a -> jump x; rung: a -> q; rung x: a -> return; rung: a -> q;", 4}, {"ld rung: /a -> jump x; rung: a -> q; rung x: /a -> return; rung: a -> q;", 8},
		{"fbd", 0}, {"fbd q := a;", 1}, {"fbd 1: and(a, :2); 2: not(a); q := :1;", 3}, {"fbd 1: c(cu := a).cv; m := :1;", 3}, {"fbd 1: t().n; 2: add(:1, f(1));", 6}, {"fbd m := f(1);", 3},
		{"sfc initial step i;", 1}, {"sfc initial step i; step j; from i to j when a; from j to i when f(1) = 1;", 6}, {"sfc initial step i do while q do enter (m := 1; m := 2;) do leave (m := 3;) do set q;", 3}, {"sfc initial step i macro x; macro x(u, v) step u; step v; from u to v when a; end;", 3},
	} {
		enough, tooMany := waiting(t, x.body, api.MaxFuel-2-x.steps), waiting(t, x.body, api.MaxFuel-1-x.steps)
		cells := first(t, enough, 0)
		_, fault, err := direct.Scan(enough, 0, cells, 0)
		after, later, errLater := direct.Scan(tooMany, 0, cells, 0)
		if !slices.Equal(after, cells) || fault != api.FNone || later != api.FFuel || err != api.OK || errLater != api.OK {
			t.Errorf("%s has not %d steps: %d, %d and %d, %d", x.body, x.steps, fault, err, later, errLater)
		}
	}
}

// TestLastStep has bodies whose last statement has a fault, when there are some steps left for them.
func TestLastStep(t *testing.T) {
	for _, x := range []struct {
		body       string
		left, want int
	}{
		{"st m := 1 / 0;", 0, api.FFuel}, {"st m := 1 / 0;", 1, api.FZero}, {"st m := 1; m := 1 / 0;", 1, api.FFuel}, {"st m := f(1 / 0);", 1, api.FZero}, {"st m := f(1) / 0;", 1, api.FFuel}, {"st m := f(1) / 0;", 2, api.FFuel}, {"st m := f(1) / 0;", 3, api.FZero}, {"st c(pv := 1 / 0);", 1, api.FZero}, {"st if 1 / 0 = 1 then end_if;", 1, api.FFuel}, {"st if 1 / 0 = 1 then end_if;", 2, api.FZero}, {"st case 1 / 0 of 1: end_case;", 1, api.FZero}, {"st for i := 1 to 1 / 0 do end_for;", 1, api.FZero}, {"st while 1 / 0 = 1 do end_while;", 1, api.FFuel}, {"st repeat until 1 / 0 = 1 end_repeat;", 1, api.FFuel}, {"st repeat until 1 / 0 = 1 end_repeat;", 2, api.FZero},
		{"il ld 1; div 0;", 1, api.FFuel}, {"il ld 1; div 0;", 2, api.FZero}, {"il ld 1; div( ; ld 0; );", 3, api.FFuel}, {"il ld 1; div( ; ld 0; );", 4, api.FZero}, {"ld rung: a & [1 / 0 = 1] -> q;", 2, api.FFuel}, {"ld rung: a & [1 / 0 = 1] -> q;", 3, api.FZero}, {"ld rung: box c(cu, pv := 1 / 0).q -> q;", 1, api.FZero}, {"fbd 1: div(1, 0);", 0, api.FFuel}, {"fbd 1: div(1, 0);", 1, api.FZero}, {"sfc initial step i; from i to i when 1 / 0 = 1;", 0, api.FFuel}, {"sfc initial step i; from i to i when 1 / 0 = 1;", 1, api.FZero}, {"sfc initial step i do while (m := 1 / 0;);", 1, api.FFuel}, {"sfc initial step i do while (m := 1 / 0;);", 2, api.FZero},
		{"st while true do end_while;", 9000, api.FFuel}, {"il l: jmp l;", 9000, api.FFuel}, {"sfc initial step i do while (repeat until false end_repeat;);", 9000, api.FFuel},
	} {
		p := waiting(t, x.body, api.MaxFuel-2-x.left)
		cells := first(t, p, 0)
		if after, fault, err := direct.Scan(p, 0, cells, 0); fault != x.want || err != api.OK || !slices.Equal(after, cells) {
			t.Errorf("%s with %d steps left: %d, %d; want %d", x.body, x.left, fault, err, x.want)
		}
	}
}

// TestFuelOfOthers checks that a scan of a run, a value, and a call have all steps.
func TestFuelOfOthers(t *testing.T) {
	p := read(t, "program p input n int; local i int; m int; st for i := 1 to n do end_for; m := m + 1; end function f : int input n int; local i int; st for i := 1 to n do end_for; f := i; end")
	all, fault, err := direct.Run(p, 0, of(0, 0, 0), of(of(api.MaxFuel-3), of(api.MaxFuel-3), of(api.MaxFuel-2)), of(0, 0, 0))
	if !slices.EqualFunc(all, of(of(api.MaxFuel-3, api.MaxFuel-3, 1), of(api.MaxFuel-3, api.MaxFuel-3, 2)), slices.Equal[[]int]) || fault != api.FFuel || err != api.OK {
		t.Errorf("Run: %v, %d, %d", all, fault, err)
	}
	for n, want := range map[int]int{api.MaxFuel - 4: api.FNone, api.MaxFuel - 3: api.FFuel} {
		result := 0
		if want == api.FNone {
			result = n
		}
		got, fault, err := direct.Call(p, 1, of(n))
		value, faultOfValue, errOfValue := direct.Value(p, 0, of(n, 0, 0), expression(t, "f(n)"))
		if got != result || fault != want || err != api.OK || value != result || faultOfValue != want || errOfValue != api.OK {
			t.Errorf("Call of %d: %d, %d, %d; Value: %d, %d, %d", n, got, fault, err, value, faultOfValue, errOfValue)
		}
	}
}
