package ladder

import (
	"iter"
	"slices"

	"winch/api"
	"winch/deep"
)

// Edges returns the variable of each contact and each coil of a well formed ladder that waits for an edge.
func Edges(l []api.Rung) ([]string, api.Errno) {
	if Check(l) != api.OK {
		return nil, api.ErrArg
	}
	var names []string
	add := func(mark int, name string) {
		if mark == api.MRise || mark == api.MFall {
			names = append(names, name)
		}
	}
	for _, x := range l {
		contacts(x.Power, add)
		for _, c := range x.Coils {
			add(c.Mark, c.Name)
		}
	}
	return names, api.OK
}

// contacts visits the contacts in an element, in the order of the text.
func contacts(p api.Power, visit func(mark int, name string)) {
	if c, is := elementOf(p).(contact); is {
		visit(c.mark, c.name)
	}
	for _, part := range p.Parts {
		contacts(part, visit)
	}
}

// Flat returns an element of a well formed ladder with the parts of its parts in their place where both are of one kind.
func Flat(p api.Power) (api.Power, api.Errno) {
	if !isPower(p) {
		return api.Power{}, api.ErrArg
	}
	return flat(p), api.OK
}

func flat(p api.Power) api.Power {
	result := withoutParts(p)
	for _, part := range p.Parts {
		f := flat(part)
		if f.Op == p.Op {
			result.Parts = append(result.Parts, f.Parts...)
		} else {
			result.Parts = append(result.Parts, f)
		}
	}
	return result
}

// withoutParts returns a copy of an element that shares no memory with it, and has no parts.
func withoutParts(p api.Power) api.Power {
	p.Arg, p.Args = deep.Exprs(p.Arg), deep.Exprs(p.Args)
	p.Fields = slices.Clone(p.Fields)
	p.Parts = nil
	return p
}

// Paths returns the lists of elements through which power can flow through an element of a well formed ladder.
func Paths(p api.Power) ([][]api.Power, api.Errno) {
	if !isPower(p) {
		return nil, api.ErrArg
	}
	var all [][]api.Power
	for path := range paths(p, nil) {
		if len(all) == api.MaxPaths {
			return nil, api.ErrFull
		}
		all = append(all, deep.List(path, withoutParts))
	}
	return all, api.OK
}

// paths visits the paths of an element, each behind the elements before. As they share memory, a path must not be kept.
func paths(p api.Power, before []api.Power) iter.Seq[[]api.Power] {
	return func(yield func([]api.Power) bool) {
		switch e := elementOf(p).(type) {
		case series:
			through(e.parts, before)(yield)
		case parallel:
			for _, part := range e.parts {
				for path := range paths(part, before) {
					if !yield(path) {
						return
					}
				}
			}
		default:
			yield(append(before, p))
		}
	}
}

// through visits the paths through all parts of a series, in the same way.
func through(parts, before []api.Power) iter.Seq[[]api.Power] {
	return func(yield func([]api.Power) bool) {
		if len(parts) == 0 {
			yield(before)
			return
		}
		for path := range paths(parts[0], before) {
			for whole := range through(parts[1:], path) {
				if !yield(whole) {
					return
				}
			}
		}
	}
}
