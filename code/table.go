package code

import (
	"winch/api"
	"winch/standard"
)

// instruction is what is known of an Op: its name, how many values it pops and pushes (without those that depend on A), and whether
// it can have some A and B in a unit.
type instruction struct {
	name         string
	pops, pushes int
	fits         func(s site, x api.Instr) bool
}

// instructions returns what is known of each Op.
func instructions() map[int]instruction {
	return map[int]instruction{
		api.IConst:  {"const", 0, 1, site.hasValue},
		api.ILoad:   {"load", 0, 1, site.hasCell},
		api.IStore:  {"store", 1, 0, site.hasCell},
		api.ILoadX:  {"loadx", 1, 1, site.hasCells},
		api.IStoreX: {"storex", 2, 0, site.hasCells},
		api.IUnary:  {"unary", 1, 1, site.hasUnary},
		api.IBinary: {"binary", 2, 1, site.hasBinary},
		api.ICall:   {"call", 0, 1, site.hasFunction},
		api.IStd:    {"std", 0, 1, site.hasStandard},
		api.IPart:   {"part", 0, 0, site.hasPart},
		api.IUnit:   {"unit", 0, 0, site.hasBlock},
		api.IJump:   {"jump", 0, 0, site.hasPlace},
		api.IFalse:  {"false", 1, 0, site.hasPlace},
		api.IReturn: {"return", 0, 0, site.hasNothing},
		api.IPick:   {"pick", 0, 1, site.hasDepth},
		api.IPut:    {"put", 1, 0, site.hasDepth},
		api.IDrop:   {"drop", 1, 0, site.hasNothing},
		api.INow:    {"now", 0, 1, site.hasNothing},
	}
}

// tables is what instructions refer to: each one is made only once for a code.
type tables struct {
	units        []api.UnitCode
	instructions map[int]instruction
	// arguments has how many arguments each standard function takes, sizes how many cells each standard block has.
	arguments, sizes []int
}

func tablesOf(c api.Code) *tables {
	t := &tables{units: c.Units, instructions: instructions()}
	for _, f := range standard.Functions() {
		t.arguments = append(t.arguments, len(f.Inputs))
	}
	for _, b := range standard.Blocks() {
		t.sizes = append(t.sizes, len(b.Cells))
	}
	return t
}

// site is the unit of a code at a position.
type site struct {
	*tables
	api.UnitCode
	at int
}

func (t *tables) site(at int) site {
	return site{t, t.units[at], at}
}

// effect returns how many values an instruction finds on the stack, at least, and how many there are more behind it.
func (s site) effect(x api.Instr) (needs, change int) {
	i := s.instructions[x.Op]
	needs, change = i.pops, i.pushes-i.pops
	switch x.Op {
	case api.ICall:
		args := s.units[x.A].Args
		return needs + args, change - args
	case api.IStd:
		args := s.arguments[x.A]
		return needs + args, change - args
	case api.IPick, api.IPut:
		return needs + x.A + 1, change
	}
	return needs, change
}
