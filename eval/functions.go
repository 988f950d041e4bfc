package eval

import "winch/api"

// function is a standard function, with the kinds of its inputs and of its result, which is still to be wrapped.
type function struct {
	inputs []int
	result int
	run    func(args []int) int
}

// functions returns the standard functions by their names.
func functions() map[string]function {
	return map[string]function{
		"abs":    {[]int{api.KInt}, api.KInt, func(a []int) int { return max(a[0], -a[0]) }},
		"min":    {[]int{api.KInt, api.KInt}, api.KInt, func(a []int) int { return min(a[0], a[1]) }},
		"max":    {[]int{api.KInt, api.KInt}, api.KInt, func(a []int) int { return max(a[0], a[1]) }},
		"limit":  {[]int{api.KInt, api.KInt, api.KInt}, api.KInt, func(a []int) int { return min(max(a[0], a[1]), a[2]) }},
		"sel":    {[]int{api.KBool, api.KInt, api.KInt}, api.KInt, func(a []int) int { return a[1+a[0]] }},
		"tobool": {[]int{api.KInt}, api.KBool, func(a []int) int { return truth(a[0] != 0) }},
		"toint":  {[]int{api.KTime}, api.KInt, func(a []int) int { return a[0] }},
		"totime": {[]int{api.KInt}, api.KTime, func(a []int) int { return max(a[0], 0) }},
	}
}

// takes reports whether a function can have these arguments.
func (f function) takes(args ...int) bool {
	if len(args) != len(f.inputs) {
		return false
	}
	for i, v := range args {
		if !IsValue(v) || f.inputs[i] == api.KBool && !isTruth(v) {
			return false
		}
	}
	return true
}
