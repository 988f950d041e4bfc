// Package ranges says which numbers can be values and times.
package ranges

import (
	"math"
	"slices"

	"winch/api"
)

// IsValue reports whether a cell of a kind can have a value.
func IsValue(kind, n int) bool {
	if kind == api.KBool {
		return n == 0 || n == 1
	}
	return n >= math.MinInt32 && n <= math.MaxInt32
}

// AreValues reports whether cells of some kinds can have the values of a list.
func AreValues(kinds, l []int) bool {
	for i, n := range l {
		if i >= len(kinds) || !IsValue(kinds[i], n) {
			return false
		}
	}
	return len(l) == len(kinds)
}

// IsTime reports whether there can be a scan at a time.
func IsTime(n int) bool {
	return n >= 0 && n <= api.MaxTime
}

// AreTimes reports whether there can be scans at the times of a list, one after the other.
func AreTimes(l []int) bool {
	isNone := func(n int) bool { return !IsTime(n) }
	return slices.IsSorted(l) && !slices.ContainsFunc(l, isNone)
}
