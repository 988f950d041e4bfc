package machine

import (
	"iter"
	"slices"

	"winch/api"
	"winch/standard"
)

// machine executes units of a valid code at a time, and counts their steps.
type machine struct {
	units []api.UnitCode
	// instructions has what executes each Op in the frame.
	instructions map[int]func(x api.Instr) fault
	functions    []standard.Function
	blocks       []standard.Block
	now, steps   int
	// visit is called with the unit and the place of each instruction that is executed, if there is one.
	visit func(unit, place int)
	*frame
}

// frame is a unit that is executed with its cells: at is the next place, or done behind the end of the unit.
type frame struct {
	cells []int
	stack []int
	at    int
}

// done is the place behind the end of a unit.
const done = -1

// fault is what ends a scan before its end.
type fault interface{ number() int }

type (
	byZero  struct{}
	outside struct{}
	tooLong struct{}
)

func (byZero) number() int  { return api.FZero }
func (outside) number() int { return api.FIndex }
func (tooLong) number() int { return api.FFuel }

func newMachine(c api.Code) *machine {
	m := &machine{units: c.Units, functions: standard.Functions(), blocks: standard.Blocks(), visit: func(int, int) {}}
	m.instructions = map[int]func(x api.Instr) fault{
		api.IConst:  m.constant,
		api.ILoad:   m.load,
		api.IStore:  m.store,
		api.ILoadX:  m.loadIndexed,
		api.IStoreX: m.storeIndexed,
		api.IUnary:  m.unary,
		api.IBinary: m.binary,
		api.ICall:   m.call,
		api.IStd:    m.standard,
		api.IPart:   m.part,
		api.IUnit:   m.unit,
		api.IJump:   m.jump,
		api.IFalse:  m.jumpIfFalse,
		api.IReturn: m.end,
		api.IPick:   m.pick,
		api.IPut:    m.put,
		api.IDrop:   m.drop,
		api.INow:    m.time,
	}
	return m
}

// has reports whether a number is the position of a unit.
func (m *machine) has(unit int) bool {
	return unit >= 0 && unit < len(m.units)
}

// scan returns the cells of a program or a block after a scan, or as they were and the fault.
func (m *machine) scan(unit int, cells []int, now int) ([]int, int) {
	after := make([]int, len(cells))
	copy(after, cells)
	if f := m.start(unit, after, now); f != nil {
		return slices.Clone(cells), f.number()
	}
	return after, api.FNone
}

// scans visits scans, each one with the cells that the one before it leaves.
func (m *machine) scans(unit int, cells, positions []int, inputs [][]int, times []int) iter.Seq2[[]int, int] {
	return func(yield func([]int, int) bool) {
		at := slices.Clone(cells)
		for i, l := range inputs {
			for k, position := range positions {
				at[position] = l[k]
			}
			after, found := m.scan(unit, at, times[i])
			if !yield(after, found) {
				return
			}
			copy(at, after)
		}
	}
}

// start executes a unit at a time, from the first step on.
func (m *machine) start(unit int, cells []int, now int) fault {
	m.now, m.steps = now, 0
	return m.execute(unit, cells)
}

// execute executes a unit with some cells, and then goes on with the frame that it interrupts.
func (m *machine) execute(unit int, cells []int) fault {
	interrupted := m.frame
	m.frame = &frame{cells: cells}
	instructions := m.units[unit].Code
	for m.frame.at != done {
		if m.steps == api.MaxFuel {
			return tooLong{}
		}
		m.steps++
		place := m.frame.at
		m.visit(unit, place)
		m.frame.at++
		x := instructions[place]
		if f := m.instructions[x.Op](x); f != nil {
			return f
		}
	}
	m.frame = interrupted
	return nil
}
