package chart

import "winch/api"

// byQualifier returns what there is for an action with a qualifier: for one whose variable or statements belong to what happens
// with its step, one that stores a value in its variable, one that has a time, or one whose qualifier there is not.
func byQualifier[T any](q int, plain, storing, timed, none T) T {
	switch q {
	case api.QWhile, api.QEnter, api.QLeave:
		return plain
	case api.QSet, api.QReset:
		return storing
	case api.QLimit, api.QDelay:
		return timed
	}
	return none
}

// isTimed reports whether an action with a qualifier has a time.
func isTimed(q int) bool {
	return byQualifier(q, false, false, true, false)
}

// qualifiers returns the qualifiers of actions by their words.
func qualifiers() map[string]int {
	return map[string]int{
		"while":  api.QWhile,
		"set":    api.QSet,
		"reset":  api.QReset,
		"limit_": api.QLimit,
		"delay":  api.QDelay,
		"enter":  api.QEnter,
		"leave":  api.QLeave,
	}
}

// words returns the word of each qualifier.
func words() map[int]string {
	all := map[int]string{}
	for word, q := range qualifiers() {
		all[q] = word
	}
	return all
}
