package writing_test

import (
	"strconv"
	"testing"

	"winch/writing"
)

func TestJoined(t *testing.T) {
	for want, l := range map[string][]int{"": nil, "5": {5}, "5, 0": {5, 0}, "1, 2, -3": {1, 2, -3}} {
		if got := writing.Joined(l, ", ", strconv.Itoa); got != want {
			t.Errorf("Joined(%v) = %q; want %q", l, got, want)
		}
	}
}

func TestInputs(t *testing.T) {
	for want, names := range map[string][]string{"": nil, "a := 5": {"a"}, "a := 5, b := 7": {"a", "b"}} {
		if got := writing.Inputs(names, []int{5, 7}[:len(names)], strconv.Itoa); got != want {
			t.Errorf("Inputs(%v) = %q; want %q", names, got, want)
		}
	}
}
