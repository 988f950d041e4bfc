package direct_test

import "testing"

func TestLists(t *testing.T) {
	const vars = "input a bool; b bool; n int; local m int; q bool; r bool := true; c ctu; k bk; x int[2] := 3, 4; d time; il "
	const end = " end block bk input v int := 3; w int := 4; output sum int; il ld v; mul w; st sum; end function f : int input x int; il ld x; gt 3; retc; ld x; mul 2; st f; end"
	of := func(lines, runs, want string) run { return run{vars + lines + end, runs, want} }
	both := "0 0 0 | 0 1 0 | 1 0 0 | 1 1 0"
	expectRuns(t, []run{
		of("", "1 0 0", "m=0 r=1"), of("ld a; st q;", "1 0 0 | 0 0 0", "q=1 | q=0"), of("ldn a; st q; stn r;", "1 0 0 | 0 0 0", "q=0 r=1 | q=1 r=0"), of("ld n; st m; add 1;", "0 0 5", "m=5"), of("ld t#5; add d; st d;", "0 0 0 | 0 0 0", "d=5 | d=10"), of("ld x[n] * 2; st m;", "0 0 1 | 0 0 0", "m=8 | m=6"), of("ld f(n); st m;", "0 0 3 | 0 0 4", "m=6 | m=0"),
		of("ld a; set q; ld b; reset q;", "0 0 0 | 1 0 0 | 0 0 0 | 1 1 0 | 0 1 0", "q=0 | q=1 | q=1 | q=0 | q=0"), of("ld a; not; st q;", "1 0 0 | 0 0 0", "q=0 | q=1"), of("ld a; not; not; not; set q;", "1 0 0 | 0 0 0", "q=0 | q=1"),
		// Operators.
		of("ld a; and b; st q;", both, "q=0 | q=0 | q=0 | q=1"), of("ld a; andn b; st q;", both, "q=0 | q=0 | q=1 | q=0"), of("ld a; or b; st q;", both, "q=0 | q=1 | q=1 | q=1"), of("ld a; orn b; st q;", both, "q=1 | q=0 | q=1 | q=1"), of("ld a; xor b; st q;", both, "q=0 | q=1 | q=1 | q=0"), of("ld a; xorn b; st q;", both, "q=1 | q=0 | q=0 | q=1"), of("ldn a; and b; not; st q;", both, "q=1 | q=0 | q=1 | q=1"), of("ld a; eq b; st q;", both, "q=1 | q=0 | q=0 | q=1"), of("ld a; ne b; st q;", both, "q=0 | q=1 | q=1 | q=0"),
		of("ld n; add 3; st m;", "0 0 4", "m=7"), of("ld n; sub 5; st m;", "0 0 4", "m=-1"), of("ld n; mul 3 + 1; st m;", "0 0 4", "m=16"), of("ld 9; div n; st m;", "0 0 4 | 0 0 -4", "m=2 | m=-2"), of("ld -9; mod n; st m;", "0 0 4", "m=-1"), of("ld 2147483647; add n; st m;", "0 0 1", "m=-2147483648"),
		of("ld 5; gt n; st q;", "0 0 4 | 0 0 5 | 0 0 6", "q=1 | q=0 | q=0"), of("ld 5; ge n; st q;", "0 0 4 | 0 0 5 | 0 0 6", "q=1 | q=1 | q=0"), of("ld 5; eq n; st q;", "0 0 4 | 0 0 5 | 0 0 6", "q=0 | q=1 | q=0"), of("ld 5; ne n; st q;", "0 0 4 | 0 0 5 | 0 0 6", "q=1 | q=0 | q=1"), of("ld 5; le n; st q;", "0 0 4 | 0 0 5 | 0 0 6", "q=0 | q=1 | q=1"), of("ld 5; lt n; st q;", "0 0 4 | 0 0 5 | 0 0 6", "q=0 | q=0 | q=1"),
		// Parentheses.
		of("ld 10; sub( ; ld n; mul 2; ); st m;", "0 0 3", "m=4"), of("ld 10; sub( ; ld n; add( ; ld 1; mul 2; ); sub 1; ); mul 3; st m;", "0 0 3", "m=18"), of("ld a; andn( ; ld b; ); st q;", both, "q=0 | q=0 | q=1 | q=0"), of("ld a; xorn( ; ld b; or r; ); st q;", both, "q=0 | q=0 | q=1 | q=1"), of("ld a; orn( ; ldn b; ); st q;", both, "q=0 | q=1 | q=1 | q=1"), of("ld 7; gt( ; ld n; ); st q;", "0 0 6 | 0 0 7", "q=1 | q=0"), of("ld a; and( ; ld n; gt( ; ld 3; ); ); st q;", "1 0 3 | 1 0 4 | 0 0 4", "q=0 | q=1 | q=0"), of("ld 1; add( ; ld 2; st m; ); add m; st m;", "0 0 0", "m=5"), of("ld a; or( ; ld b; set q; ); st r;", "0 1 0 | 1 0 0 | 0 0 0", "q=1 r=1 | q=1 r=1 | q=1 r=0"),
		// Jumps, forth and back.
		of("ld a; jmpc l1; ld 1; st m; ret; l1: ld 2; st m;", "0 0 0 | 1 0 0", "m=1 | m=2"), of("ld a; jmpcn l1; ld 1; st m; ret; l1: ld 2; st m;", "0 0 0 | 1 0 0", "m=2 | m=1"), of("jmp l1; ld 1; st m; l1: ld m; add 10; st m;", "0 0 0", "m=10"), of("l1: ld m; add 1; st m; lt n; jmpc l1;", "0 0 5 | 0 0 5 | 0 0 9", "m=5 | m=6 | m=9"), of("l1: ld m; ge n; retc; ld m; add 2; st m; jmp l1;", "0 0 5 | 0 0 5", "m=6 | m=6"), of("ld a; jmpc l1; jmpcn l2; l1: ld 1; st m; l2: ld m; mul 10; st m;", "1 0 0 | 0 0 0", "m=10 | m=100"), of("ld a; jmpc l1; st q; ld 3; st m; l1: ret;", "1 0 0 | 0 0 0", "m=0 q=0 | m=3 q=0"),
		// Calls.
		of("cal c(cu := a, pv := 2); ld c.cv; st m;", "1 0 0 | 0 0 0 | 1 0 0", "m=1 c.q=0 | m=1 c.q=0 | m=2 c.q=1"), of("ld b; calc c(cu := a, pv := 2); ld c.cv; st m;", "1 0 0 | 1 1 0 | 0 0 0", "m=0 c.cu=0 | m=1 c.cu=1 | m=1 c.cu=1"), of("ld b; calcn c(cu := a, pv := 2); ld c.cv; st m;", "1 1 0 | 1 0 0 | 0 1 0", "m=0 c.cu=0 | m=1 c.cu=1 | m=1 c.cu=1"),
		of("ld b; calc k(v := 1 / n); st q;", "0 0 0 | 0 1 1 | 0 1 0", "k.sum=0 q=0 | k.sum=4 q=1 | !1"), of("ld b; calcn k(v := 1 / n); st q;", "0 1 0 | 0 0 1 | 0 0 0", "k.sum=0 q=1 | k.sum=4 q=0 | !1"), of("ld a; cal k(v := n); st q;", "1 0 5", "q=1 k.sum=20"), of("cal k(w := k.sum + 1, v := n); cal k;", "0 0 2 | 0 0 3", "k.v=2 k.w=1 k.sum=2 | k.v=3 k.w=3 k.sum=9"), of("ld 1; add( ; ld n; cal k(v := 2); ); st m;", "0 0 4", "m=5 k.sum=8"),
		// Returns.
		of("ld 1; st m; ret; ld 2; st m;", "0 0 0", "m=1"), of("ld a; retc; ld m; add 1; st m;", "0 0 0 | 1 0 0 | 0 0 0", "m=1 | m=1 | m=2"), of("ld a; retcn; ld m; add 1; st m;", "0 0 0 | 1 0 0 | 0 0 0", "m=0 | m=1 | m=1"),
		// Faults.
		of("ld 1; st m; div n; st m;", "0 0 1 | 0 0 0", "m=1 | !1"), of("ld 1; mod( ; ld n; ); st m;", "0 0 2 | 0 0 0", "m=1 | !1"), of("ld 1; st m; ld x[n];", "0 0 1 | 0 0 2", "m=1 | !2"), of("ld a; or 1 / n = 5; st q;", "1 0 0", "!1"),
	})
}
