package tidy

import (
	"winch/api"
	"winch/standard"
)

// cells is a set of cells of a unit.
type cells [(api.MaxCells + 63) / 64]uint64

func (c *cells) add(at int) { c[at/64] |= 1 << (at % 64) }

func (c *cells) remove(at int) { c[at/64] &^= 1 << (at % 64) }

func (c *cells) has(at int) bool { return c[at/64]>>(at%64)&1 == 1 }

func (c *cells) addAll(other cells) {
	for i, word := range other {
		c[i] |= word
	}
}

// reads is about which cells of a unit are read: before has for each place those that are read on some way from there before they are
// written.
type reads struct {
	units  []api.UnitCode
	unit   api.UnitCode
	blocks []standard.Block
	before []cells
}

// newReads finds the cells that are read from each place of a unit on. As long as some set is not the same as before, those from which
// ways lead there can change, too; a way that never ends reads nothing.
func newReads(units []api.UnitCode, at int) *reads {
	r := &reads{units: units, unit: units[at], blocks: standard.Blocks()}
	r.before = make([]cells, len(r.unit.Code))
settled:
	for {
		isSame := true
		for place := len(r.before) - 1; place >= 0; place-- {
			now := r.from(place)
			if now != r.before[place] {
				r.before[place] = now
				isSame = false
			}
		}
		if isSame {
			break settled
		}
	}
	return r
}

// from returns the cells that are read from a place on, as far as is known so far.
func (r *reads) from(place int) cells {
	set := r.behind(place)
	x := r.unit.Code[place]
	switch x.Op {
	case api.IReturn:
		set = r.span(0, r.unit.Cells)
	case api.IStore:
		set.remove(x.A)
	case api.ILoad:
		set.add(x.A)
	case api.ILoadX:
		set.addAll(r.span(x.A, x.B))
	case api.IPart:
		set.addAll(r.span(x.B, len(r.blocks[x.A].Cells)))
	case api.IUnit:
		set.addAll(r.span(x.B, r.units[x.A].Cells))
	}
	return set
}

// behind returns the cells that are read from the places on that come after one.
func (r *reads) behind(place int) cells {
	var set cells
	x := r.unit.Code[place]
	if jumps(x) {
		set.addAll(r.before[x.A])
	}
	if goesOn(x) {
		set.addAll(r.before[place+1])
	}
	return set
}

// span returns so many cells, from one on.
func (r *reads) span(first, count int) cells {
	var set cells
	for at := range count {
		set.add(first + at)
	}
	return set
}

// dead returns the places that write a cell which nothing reads from there on, ascending.
func (r *reads) dead() []int {
	is := reached(r.unit.Code)
	var found []int
	for place, x := range r.unit.Code {
		behind := r.behind(place)
		if is[place] && x.Op == api.IStore && !behind.has(x.A) {
			found = append(found, place)
		}
	}
	return found
}
