package kinds_test

import (
	"math"
	"slices"
	"testing"

	"winch/api"
	"winch/kinds"
)

func of[T any](l ...T) []T { return l }

func TestResult(t *testing.T) {
	all := of(0, api.KBool, api.KInt, api.KTime, api.KBlock, -1)
	for op := -2; op <= 24; op++ {
		for _, v := range all {
			for _, w := range all {
				kind, is := 0, v == w
				switch {
				case slices.Contains(of(api.EOr, api.EXor, api.EAnd), op):
					kind, is = api.KBool, is && v == api.KBool
				case slices.Contains(of(api.EMul, api.EDiv, api.EMod), op):
					kind, is = api.KInt, is && v == api.KInt
				case slices.Contains(of(api.EAdd, api.ESub), op):
					kind, is = v, is && (v == api.KInt || v == api.KTime)
				case slices.Contains(of(api.EEq, api.ENe), op):
					kind, is = api.KBool, is && v >= api.KBool && v <= api.KTime
				case slices.Contains(of(api.ELt, api.ELe, api.EGt, api.EGe), op):
					kind, is = api.KBool, is && (v == api.KInt || v == api.KTime)
				default:
					is = false
				}
				if op == api.ENot || op == api.ENeg {
					continue
				}
				if got, wanted := kinds.Result(op, v, w); wanted != is || is && got != kind || !is && got != 0 {
					t.Errorf("Result(%d, %d, %d) = %d, %v", op, v, w, got, wanted)
				}
			}
			got, wanted := kinds.Result(api.ENot, v)
			if is := v == api.KBool; wanted != is || is && got != api.KBool || !is && got != 0 {
				t.Errorf("Result of not with %d: %d, %v", v, got, wanted)
			}
			got, wanted = kinds.Result(api.ENeg, v)
			if is := v == api.KInt; wanted != is || is && got != api.KInt || !is && got != 0 {
				t.Errorf("Result of - with %d: %d, %v", v, got, wanted)
			}
		}
	}
	if kind, wanted := kinds.Result(math.MaxInt, api.KBool); kind != 0 || wanted {
		t.Errorf("Result of no operator: %d, %v", kind, wanted)
	}
}
