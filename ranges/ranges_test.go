package ranges_test

import (
	"math"
	"testing"

	"winch/api"
	"winch/ranges"
)

func TestValues(t *testing.T) {
	for _, n := range []int{math.MinInt, -1<<31 - 1, -1 << 31, -1, 0, 1, 2, 1<<31 - 1, 1 << 31, math.MaxInt} {
		isInt := n >= -1<<31 && n < 1<<31
		if ranges.IsValue(api.KBool, n) != (n == 0 || n == 1) || ranges.IsValue(api.KInt, n) != isInt || ranges.IsValue(api.KTime, n) != isInt {
			t.Errorf("%d", n)
		}
		if ranges.AreValues([]int{api.KInt, api.KTime}, []int{5, n}) != isInt || ranges.AreValues([]int{api.KInt, api.KBool}, []int{n, 1}) != isInt {
			t.Errorf("5 and %d", n)
		}
	}
	for _, x := range []struct {
		kinds, l []int
		want     bool
	}{
		{nil, nil, true}, {nil, []int{}, true}, {[]int{api.KBool}, nil, false}, {nil, []int{0}, false}, {[]int{api.KBool}, []int{0, 0}, false},
		{[]int{api.KBool, api.KInt}, []int{1, 2}, true}, {[]int{api.KBool, api.KInt}, []int{2, 1}, false}, {[]int{api.KBool, api.KInt}, []int{1}, false},
	} {
		if got := ranges.AreValues(x.kinds, x.l); got != x.want {
			t.Errorf("AreValues(%v, %v) = %v", x.kinds, x.l, got)
		}
	}
}

func TestTimes(t *testing.T) {
	for _, n := range []int{math.MinInt, -1, 0, 1, api.MaxTime, api.MaxTime + 1, math.MaxInt} {
		is := n >= 0 && n <= 1000000000
		if ranges.IsTime(n) != is || ranges.AreTimes([]int{n}) != is || ranges.AreTimes([]int{0, n}) != is || ranges.AreTimes([]int{n, api.MaxTime}) != is {
			t.Errorf("%d", n)
		}
	}
	if !ranges.AreTimes(nil) || !ranges.AreTimes([]int{3, 3, 4}) || ranges.AreTimes([]int{3, 4, 3}) {
		t.Error("lists")
	}
}
