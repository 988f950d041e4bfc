package eval_test

import (
	"math"
	"math/big"
	"math/rand"
	"slices"
	"strings"
	"testing"

	"winch/api"
	"winch/eval"
)

func of[T any](l ...T) []T { return l }

// edges are numbers at which something changes.
func edges() []int {
	return of(math.MinInt, math.MinInt+1, -1<<33, -1<<32-1, -1<<32, -1<<32+1, math.MinInt32-1, math.MinInt32, math.MinInt32+1, -65536, -3, -2, -1, 0, 1, 2, 3, 7, 46341, 65536, math.MaxInt32-1, math.MaxInt32, math.MaxInt32+1, 1<<32-1, 1<<32, 1<<32+1, 1<<40+5, math.MaxInt-1, math.MaxInt)
}

// wrapped returns the value that is equal to a number modulo 2^32.
func wrapped(n *big.Int) int {
	size := big.NewInt(1 << 32)
	n = new(big.Int).Mod(n, size)
	if n.Cmp(big.NewInt(math.MaxInt32)) > 0 {
		n.Sub(n, size)
	}
	return int(n.Int64())
}

func isValue(n int) bool { return n >= -2147483648 && n <= 2147483647 }

func TestWrap(t *testing.T) {
	for _, n := range edges() {
		want := wrapped(big.NewInt(int64(n)))
		if got := eval.Wrap(n); got != want || eval.Wrap(got) != got || !eval.IsValue(got) {
			t.Errorf("Wrap(%d) = %d; want %d", n, got, want)
		}
		if eval.IsValue(n) != isValue(n) {
			t.Errorf("IsValue(%d) = %v", n, eval.IsValue(n))
		}
	}
	for n, want := range map[int]int{2147483648: -2147483648, -2147483649: 2147483647, 4294967295: -1, 4294967296: 0, 5: 5, -5: -5} {
		if got := eval.Wrap(n); got != want {
			t.Errorf("Wrap(%d) = %d; want %d", n, got, want)
		}
	}
}

func truth(is bool) *big.Int {
	if is {
		return big.NewInt(1)
	}
	return new(big.Int)
}

// isLogical reports whether an operator wants operands that are 0 or 1.
func isLogical(op int) bool {
	return slices.Contains(of(api.ENot, api.EOr, api.EXor, api.EAnd), op)
}

// model computes an operator of two operands with exact numbers; false if there is no such one, or not with these operands.
func model(op, v, w int) (int, int, bool) {
	if !isValue(v) || !isValue(w) || isLogical(op) && (v < 0 || v > 1 || w < 0 || w > 1) {
		return 0, 0, false
	}
	x, y, n := big.NewInt(int64(v)), big.NewInt(int64(w)), new(big.Int)
	order := x.Cmp(y)
	if (op == api.EDiv || op == api.EMod) && w == 0 {
		return 0, api.FZero, true
	}
	switch op {
	case api.EOr:
		n = truth(v+w > 0)
	case api.EXor:
		n = truth(v+w == 1)
	case api.EAnd:
		n = truth(v+w == 2)
	case api.EEq:
		n = truth(order == 0)
	case api.ENe:
		n = truth(order != 0)
	case api.ELt:
		n = truth(order < 0)
	case api.ELe:
		n = truth(order <= 0)
	case api.EGt:
		n = truth(order > 0)
	case api.EGe:
		n = truth(order >= 0)
	case api.EAdd:
		n.Add(x, y)
	case api.ESub:
		n.Sub(x, y)
	case api.EMul:
		n.Mul(x, y)
	case api.EDiv:
		n.Quo(x, y)
	case api.EMod:
		n.Rem(x, y)
	default:
		return 0, 0, false
	}
	return wrapped(n), api.FNone, true
}

// expectBinary holds an operator against the model.
func expectBinary(t *testing.T, op, v, w int) {
	t.Helper()
	got, fault, err := eval.Binary(op, v, w)
	want, wantFault, is := model(op, v, w)
	if got != want || fault != wantFault || (err == api.OK) != is || !is && err != api.ErrArg {
		t.Errorf("Binary(%d, %d, %d) = %d, %d, %d; want %d, %d, %v", op, v, w, got, fault, err, want, wantFault, is)
	}
}

func TestBinary(t *testing.T) {
	operators := append(edges(), 4, 5, 6, 8, 9, 10, 11, 12, 13, 14, 15, 16, 17, 18, 19, 20, 21, 22, 23, -7)
	for _, op := range operators {
		for _, v := range edges() {
			for _, w := range edges() {
				expectBinary(t, op, v, w)
			}
		}
	}
	r := rand.New(rand.NewSource(1))
	for range 20000 {
		v, w := r.Intn(1<<32)-1<<31, r.Intn(1<<32)-1<<31
		op := api.EOr + r.Intn(14)
		expectBinary(t, op, v, w)
		expectBinary(t, op, v, w>>r.Intn(32))
		expectBinary(t, op, v>>r.Intn(32), w>>16)
		expectBinary(t, op, v&1, w&1)
	}
	for _, x := range []struct{ op, v, w, want int }{
		{api.EAdd, 2147483647, 1, -2147483648}, {api.EDiv, -7, 2, -3}, {api.EMod, -7, 2, -1}, {api.EDiv, 7, -2, -3}, {api.EMod, 7, -2, 1}, {api.EDiv, -2147483648, -1, -2147483648}, {api.EMod, -2147483648, -1, 0}, {api.EMul, 65536, 65536, 0}, {api.EMul, -2147483648, -2147483648, 0}, {api.ESub, -2147483648, 1, 2147483647},
	} {
		if got, fault, err := eval.Binary(x.op, x.v, x.w); got != x.want || fault != api.FNone || err != api.OK {
			t.Errorf("Binary(%d, %d, %d) = %d, %d, %d; want %d", x.op, x.v, x.w, got, fault, err, x.want)
		}
	}
}

// TestDivision is about P11.4: the quotient times the divisor plus the rest is the dividend, wrapped.
func TestDivision(t *testing.T) {
	for _, v := range edges() {
		for _, w := range edges() {
			q, fault, err := eval.Binary(api.EDiv, v, w)
			if fault != api.FNone || err != api.OK {
				continue
			}
			product, _, _ := eval.Binary(api.EMul, q, w)
			rest, _, _ := eval.Binary(api.EMod, v, w)
			if n, _, _ := eval.Binary(api.EAdd, product, rest); n != v {
				t.Errorf("%d / %d: %d, rest %d", v, w, q, rest)
			}
		}
	}
}

func TestUnary(t *testing.T) {
	for _, op := range append(edges(), 4, 5, 6, 8, 9, 21, 22) {
		for _, v := range edges() {
			want, is := 0, isValue(v)
			switch op {
			case api.ENot:
				want, is = 1-v, v == 0 || v == 1
			case api.ENeg:
				want = wrapped(big.NewInt(-int64(v)))
			default:
				is = false
			}
			got, err := eval.Unary(op, v)
			if is && (got != want || err != api.OK) || !is && (got != 0 || err != api.ErrArg) {
				t.Errorf("Unary(%d, %d) = %d, %d; want %d, %v", op, v, got, err, want, is)
			}
		}
	}
}

func TestCall(t *testing.T) {
	const least, most = math.MinInt32, math.MaxInt32
	for _, x := range []struct {
		name string
		args []int
		want int
	}{
		{"abs", of(5), 5}, {"abs", of(-5), 5}, {"abs", of(0), 0}, {"abs", of(most), most}, {"abs", of(-most), most}, {"abs", of(least), least},
		{"min", of(3, 4), 3}, {"min", of(4, 3), 3}, {"min", of(least, most), least}, {"max", of(3, 4), 4}, {"max", of(4, 3), 4}, {"max", of(least, most), most}, {"max", of(-1, -2), -1}, {"min", of(-1, -2), -2},
		{"limit", of(0, 7, 5), 5}, {"limit", of(0, -7, 5), 0}, {"limit", of(0, 3, 5), 3}, {"limit", of(5, 3, 0), 0}, {"limit", of(5, 7, 0), 0}, {"limit", of(5, -7, 0), 0}, {"limit", of(least, 0, most), 0}, {"limit", of(-3, -5, -1), -3},
		{"sel", of(0, 7, 8), 7}, {"sel", of(1, 7, 8), 8}, {"sel", of(1, least, most), most}, {"tobool", of(0), 0}, {"tobool", of(1), 1}, {"tobool", of(-1), 1}, {"tobool", of(least), 1}, {"tobool", of(2), 1},
		{"toint", of(500), 500}, {"toint", of(-500), -500}, {"toint", of(least), least}, {"totime", of(500), 500}, {"totime", of(0), 0}, {"totime", of(-1), 0}, {"totime", of(least), 0}, {"totime", of(most), most},
	} {
		before := slices.Clone(x.args)
		if got, err := eval.Call(x.name, x.args); got != x.want || err != api.OK || !slices.Equal(x.args, before) {
			t.Errorf("Call(%s, %v) = %d, %d; want %d", x.name, x.args, got, err, x.want)
		}
	}
}

// signatures are the kinds of the inputs and of the result of each standard function.
var signatures = map[string][]int{
	"abs": {api.KInt, api.KInt}, "limit": {api.KInt, api.KInt, api.KInt, api.KInt}, "max": {api.KInt, api.KInt, api.KInt}, "min": {api.KInt, api.KInt, api.KInt}, "sel": {api.KBool, api.KInt, api.KInt, api.KInt},
	"tobool": {api.KInt, api.KBool}, "toint": {api.KTime, api.KInt}, "totime": {api.KInt, api.KTime},
}

func TestKinds(t *testing.T) {
	for name, want := range signatures {
		inputs, result, err := eval.Kinds(name)
		if !slices.Equal(append(slices.Clone(inputs), result), want) || err != api.OK {
			t.Errorf("Kinds(%s) = %v, %d, %d; want %v", name, inputs, result, err, want)
		}
		// Results are new memory.
		clear(inputs)
		if again, _, _ := eval.Kinds(name); !slices.Equal(again, want[:len(want)-1]) {
			t.Errorf("Kinds(%s) again: %v", name, again)
		}
		good := make([]int, len(inputs))
		if _, err := eval.Call(name, good); err != api.OK {
			t.Errorf("Call(%s, %v): %d", name, good, err)
		}
		for _, args := range [][]int{nil, good[1:], append(good, 0), make([]int, 1<<16)} {
			if got, err := eval.Call(name, args); got != 0 || err != api.ErrArg {
				t.Errorf("Call(%s) with %d arguments: %d, %d", name, len(args), got, err)
			}
		}
		for i, kind := range want[:len(inputs)] {
			for _, n := range edges() {
				args := slices.Clone(good)
				args[i] = n
				is := isValue(n) && (kind != api.KBool || n == 0 || n == 1)
				if got, err := eval.Call(name, args); (err == api.OK) != is || !is && (err != api.ErrArg || got != 0) || !eval.IsValue(got) {
					t.Errorf("Call(%s, %v) = %d, %d", name, args, got, err)
				}
			}
		}
	}
	for _, name := range of("", "ABS", "abs ", "ton", "f", "mod", "not", strings.Repeat("abs", 1<<16)) {
		if inputs, result, err := eval.Kinds(name); len(inputs) != 0 || result != 0 || err != api.ErrNone {
			t.Errorf("Kinds(%.20q) = %v, %d, %d", name, inputs, result, err)
		}
		if n, err := eval.Call(name, of(1<<40)); n != 0 || err != api.ErrNone {
			t.Errorf("Call(%.20q) = %d, %d", name, n, err)
		}
	}
}
