// Package writing has what the writers of all texts have in common.
package writing

import "strings"

// Joined returns the texts of the members of a list with something between each two.
func Joined[T any](l []T, between string, text func(T) string) string {
	var all strings.Builder
	for i, x := range l {
		if i > 0 {
			all.WriteString(between)
		}
		all.WriteString(text(x))
	}
	return all.String()
}

// Inputs returns the text of the inputs of a call, each of which has a name and, at the same position, a value.
func Inputs[T any](names []string, values []T, text func(T) string) string {
	var l []string
	for i, name := range names {
		l = append(l, name+" := "+text(values[i]))
	}
	return strings.Join(l, ", ")
}
