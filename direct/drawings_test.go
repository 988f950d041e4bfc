package direct_test

import "testing"

func TestLadders(t *testing.T) {
	const vars = "input a bool; b bool; n int; local q bool; r bool; s bool := true; m int; c ctu; t ton; k bk; ld "
	const end = " end block bk input go bool; v int; output done bool; sum int; st sum := sum + v; done := go and sum > 5; end"
	of := func(rungs, runs, want string) run { return run{vars + rungs + end, runs, want} }
	both := "0 0 0 | 0 1 0 | 1 0 0 | 1 1 0"
	expectRuns(t, []run{
		of("", "1 0 0", "q=0"), of("rung: true -> q;", "0 0 0", "q=1"), of("rung: a -> q, /r;", "1 0 0 | 0 0 0", "q=1 r=0 | q=0 r=1"), of("rung: /a -> q;", "1 0 0 | 0 0 0", "q=0 | q=1"),
		of("rung: a & b -> q;", both, "q=0 | q=0 | q=0 | q=1"), of("rung: a | b -> q;", both, "q=0 | q=1 | q=1 | q=1"), of("rung: a & (b | /r) & s -> q;", both, "q=0 | q=0 | q=1 | q=1"), of("rung: a & /b | /a & b -> q;", both, "q=0 | q=1 | q=1 | q=0"), of("rung: (a | b) & (/a | /b) -> q;", both, "q=0 | q=1 | q=1 | q=0"), of("rung: a & (true | b & r) -> q;", both, "q=0 | q=0 | q=1 | q=1"),
		// Edges are those since the last scan; the hidden cells are 0 at first.
		of("rung: +a -> q;", "1 0 0 | 1 0 0 | 0 0 0 | 1 0 0", "q=1 | q=0 | q=0 | q=1"), of("rung: -a -> q;", "0 0 0 | 1 0 0 | 0 0 0 | 0 0 0", "q=0 | q=0 | q=1 | q=0"), of("rung: b & +a -> q;", "1 0 0 | 1 1 0 | 0 1 0 | 1 1 0", "q=0 | q=0 | q=0 | q=1"), of("rung: b & -a -> q;", "1 1 0 | 0 0 0 | 0 1 0 | 1 1 0 | 0 1 0", "q=0 | q=0 | q=0 | q=0 | q=1"), of("rung: s | +a -> r; rung: b & +a -> q;", "0 1 0 | 1 1 0 | 1 1 0", "q=0 | q=1 | q=0"), of("rung: +a & +a -> set q; rung: +a & -a -> set r;", "1 0 0 | 0 0 0 | 1 0 0", "q=1 r=0 | q=1 r=0 | q=1 r=0"),
		of("rung: a -> +q, -r;", "1 0 0 | 1 0 0 | 0 0 0 | 0 0 0", "q=1 r=0 | q=0 r=0 | q=0 r=1 | q=0 r=0"), of("rung: a -> -q;", "0 0 0 | 1 0 0 | 0 0 0", "q=0 | q=0 | q=1"), of("rung: +a -> +q, q, -r;", "1 0 0 | 1 0 0 | 1 0 0", "q=1 r=0 | q=0 r=1 | q=0 r=0"), of("rung: a -> -q; rung: -q -> r;", "1 0 0 | 0 0 0 | 0 0 0", "q=0 r=0 | q=1 r=0 | q=0 r=1"),
		// Coils, in their order.
		of("rung: a -> set q; rung: b -> reset q, set r;", "0 0 0 | 1 0 0 | 0 0 0 | 1 1 0", "q=0 r=0 | q=1 r=0 | q=1 r=0 | q=0 r=1"), of("rung: a -> q, /q, r; rung: q -> s;", "1 0 0 | 0 0 0", "q=0 r=1 s=0 | q=1 r=0 s=1"), of("rung: q -> r; rung: a -> q; rung: q -> s;", "1 0 0 | 0 0 0", "r=0 q=1 s=1 | r=1 q=0 s=0"),
		// All of a rung is executed, whether there is power or not.
		of("rung: a & [n > 3] -> q;", "1 0 4 | 1 0 3 | 0 0 4", "q=1 | q=0 | q=0"), of("rung: a & [1 / n = 1] -> q;", "0 0 1 | 0 0 0", "q=0 | !1"), of("rung: true | [1 mod n = 0] -> q;", "0 0 1 | 0 0 0", "q=1 | !1"), of("rung: a | (b & -q | +b) -> r;", "1 1 0 | 0 1 0 | 0 0 0 | 0 1 0", "r=1 | r=0 | r=0 | r=1"),
		// Boxes.
		of("rung: a & box c(cu, pv := n).q -> q;", "1 0 2 | 0 0 2 | 1 0 2 | 0 0 2", "q=0 c.cv=1 | q=0 c.cv=1 | q=1 c.cv=2 | q=1 c.cv=2"), of("rung: a & box c(r).q -> q;", "0 0 0 | 1 0 0", "q=1 c.r=0 | q=1 c.r=1"), of("rung: b & box k(go, v := n).done & a -> q;", "1 1 5 | 1 1 1 | 1 0 1 | 0 1 1", "q=0 k.sum=5 | q=1 k.sum=6 | q=0 k.sum=7 | q=0 k.sum=8 k.done=1"), of("rung: a & box k(go, v := 1 / n).done -> q;", "0 0 1 | 0 0 0", "q=0 | !1"), of("rung: box k(go, v := k.sum + 1).done | box k(go, v := k.sum).done -> q;", "0 0 0 | 0 0 0", "k.sum=2 q=0 | k.sum=10 q=1"), of("rung: a & box t(in, pt := t#10).q -> q;", "1 0 0 | @5 1 0 0 | @10 1 0 0 | @12 0 0 0", "q=0 t.et=0 | q=0 t.et=5 | q=1 t.et=10 | q=0 t.et=0"),
		// Jumps and returns; what is jumped over keeps what its edges were.
		of("rung: a -> r, jump x; rung: true -> set q; rung x: /r -> s;", "1 0 0 | 0 0 0", "r=1 q=0 s=0 | r=0 q=1 s=1"), of("rung: a -> q, return; rung: true -> set r;", "1 0 0 | 0 0 0", "q=1 r=0 | q=0 r=1"), of("rung: a -> jump y; rung: +b -> jump x; rung x: q -> r; rung y: -a -> set q;", "1 0 0 | 0 1 0 | 0 1 0", "q=0 r=0 | q=1 r=0 | q=1 r=1"),
		of("rung: a -> jump x; rung: +b -> q; rung x: +b -> r;", "1 1 0 | 0 1 0 | 0 1 0", "q=0 r=1 | q=1 r=0 | q=0 r=0"), of("rung: +a & -a -> +q, jump x; rung: -b -> -q, r; rung x: +b & -b | +b -> -s;", "0 1 0 | 0 0 0 | 0 1 0", "s=0 r=0 q=0 | s=1 r=1 q=0 | s=0 r=0 q=1"),
	})
	expectRuns(t, []run{
		// A ladder in a block, which has cells of its own in each variable, and in a function.
		{"input a bool; b bool; local k e; l e; q bool; st k(in := a); l(in := b); q := k.up and l.up; end block e input in bool; output up bool; ld rung: +in -> up; end", "1 0 | 1 1 | 0 0 | 1 1", "k.up=1 l.up=0 q=0 | k.up=0 l.up=1 q=0 | k.up=0 l.up=0 | k.up=1 l.up=1 q=1"},
		{"input a bool; n int; local q bool; st q := f(a, n) or f(true, 3); end function f : bool input a bool; n int; ld rung: a & [n > 3] -> f; end", "1 3 | 1 4 | 0 4", "q=0 | q=1 | q=0"},
	})
}

func TestDiagrams(t *testing.T) {
	const vars = "input a bool; b bool; n int; local q bool; r bool; m int; l int; c ctu; k bk; d time; fbd "
	const end = " end block bk input go bool; v int := 3; output done bool; sum int; fbd 7: add(sum, v); sum := :7; done := :8; 8: and(go, :9); 9: gt(:7, 5); end function f : int input x int; fbd f := :2; 1: mul(x, 2); 2: add(:1, f); end"
	of := func(nodes, runs, want string) run { return run{vars + nodes + end, runs, want} }
	both := "0 0 0 | 0 1 0 | 1 0 0 | 1 1 0"
	expectRuns(t, []run{
		of("", "1 0 0", "q=0"), of("q := a;", "1 0 0 | 0 0 0", "q=1 | q=0"), of("q := /a; m := n + 1;", "1 0 5 | 0 0 6", "q=0 m=6 | q=1 m=7"), of("d := t#5 + d;", "0 0 0 | 0 0 0", "d=5 | d=10"), of("m := f(n);", "0 0 5", "m=10"),
		of("1: and(a, /b); q := :1;", both, "q=0 | q=0 | q=1 | q=0"), of("1: or(/a, b); q := /:1;", both, "q=0 | q=0 | q=1 | q=0"), of("1: xor(a, b); q := :1;", both, "q=0 | q=1 | q=1 | q=0"), of("1: not(a); 2: not(/b); q := :1; r := :2;", both, "q=1 r=0 | q=1 r=1 | q=0 r=0 | q=0 r=1"), of("1: eq(a, b); q := :1;", both, "q=1 | q=0 | q=0 | q=1"), of("1: and(a, /b); 2: or(/:1, false); 3: not(/:2); q := :3;", both, "q=1 | q=1 | q=0 | q=1"),
		of("1: add(n, 3); 2: sub(:1, 10); 3: mul(:2, :2); m := :3;", "0 0 4", "m=9"), of("1: div(n, 2); 2: mod(n, 4); m := :1; l := :2;", "0 0 7 | 0 0 -7", "m=3 l=3 | m=-3 l=-3"), of("1: gt(n, 5); 2: ge(n, 5); q := :1; r := :2;", "0 0 4 | 0 0 5 | 0 0 6", "q=0 r=0 | q=0 r=1 | q=1 r=1"), of("1: lt(n, 5); 2: le(n, 5); q := :1; r := :2;", "0 0 4 | 0 0 5 | 0 0 6", "q=1 r=1 | q=0 r=1 | q=0 r=0"), of("1: ne(n, 5); q := :1;", "0 0 4 | 0 0 5", "q=1 | q=0"), of("1: sub(5, n); 2: sub(n, 5); m := :1; l := :2;", "0 0 7", "m=-2 l=2"),
		// The order: the first node of the list that takes only from those that are there.
		of("m := :1; 1: add(m, 1); l := m;", "0 0 0 | 0 0 0", "m=1 l=1 | m=2 l=2"), of("l := m; m := :1; 1: add(m, 5);", "0 0 0 | 0 0 0", "m=5 l=0 | m=10 l=5"), of("2: add(m, 1); m := :3; l := m; 3: add(:2, n);", "0 0 5 | 0 0 5", "m=6 l=0 | m=12 l=6"), of("m := m + 1; m := m * 10; l := m + n;", "0 0 2 | 0 0 2", "m=10 l=12 | m=110 l=112"),
		// Blocks.
		of("1: c(cu := a, pv := n).cv; m := :1; q := c.q;", "1 0 2 | 0 0 2 | 1 0 2", "m=1 q=0 | m=1 q=0 | m=2 q=1"), of("m := :1; 1: k(v := n, go := /b).sum; q := k.done;", "0 0 3 | 0 0 3 | 0 1 3", "m=3 q=0 | m=6 q=1 | m=9 q=0"), of("1: k(v := 1).sum; 2: k(v := :1, go := :3).done; 3: gt(:1, n); q := /:2; m := k.sum;", "0 0 2 | 0 0 2 | 0 0 9", "m=2 q=1 k.go=0 | m=6 q=0 k.go=1 | m=14 q=1 k.go=0"), of("1: k().sum; m := :1;", "0 0 0 | 0 0 0", "m=3 | m=6"),
		// All nodes are executed, also those from which none takes.
		of("1: div(1, n); q := a;", "1 0 1 | 1 0 0", "q=1 | !1"), of("0: mod(1, n); q := a;", "1 0 1 | 1 0 0", "q=1 | !1"), of("q := a; 1: add(1 / n, 2);", "1 0 1 | 1 0 0", "q=1 | !1"),
	})
}
