package code

import (
	"winch/api"
	"winch/eval"
	"winch/lexis"
)

// isValid reports whether a code is valid.
func isValid(c api.Code) bool {
	if len(c.Units) < 1 || len(c.Units) > api.MaxUnits {
		return false
	}
	t := tablesOf(c)
	there := map[string]bool{}
	for at, u := range c.Units {
		if !lexis.IsName(u.Name) || there[u.Name] || !isUnit(u) {
			return false
		}
		there[u.Name] = true
		s := t.site(at)
		if !s.areInstructions() {
			return false
		}
		if _, fits := s.depths(); !fits {
			return false
		}
	}
	return true
}

// isUnit reports whether the numbers of a unit are those of one, and whether it cannot be executed beyond its last instruction.
func isUnit(u api.UnitCode) bool {
	args, cells := 0, 0
	switch u.Kind {
	case api.UFunction:
		args, cells = api.MaxVars, 1+u.Args
	case api.UProgram, api.UBlock:
	default:
		return false
	}
	return isFrom(0, u.Args, args) && isFrom(cells, u.Cells, api.MaxCells) && isFrom(1, len(u.Code), api.MaxCode) && ends(u.Code[len(u.Code)-1])
}

// ends reports whether the place after an instruction does not come after it.
func ends(x api.Instr) bool {
	return x.Op == api.IReturn || x.Op == api.IJump
}

// areInstructions reports whether all instructions of a unit are those of the table, with what they can have.
func (s site) areInstructions() bool {
	for _, x := range s.Code {
		if i, known := s.instructions[x.Op]; !known || !i.fits(s, x) {
			return false
		}
	}
	return true
}

// isFrom reports whether n is from least to most.
func isFrom(least, n, most int) bool {
	return n >= least && n <= most
}

func (s site) hasNothing(x api.Instr) bool { return x.A == 0 && x.B == 0 }

func (s site) hasValue(x api.Instr) bool { return eval.IsValue(x.A) && x.B == 0 }

func (s site) hasCell(x api.Instr) bool { return isFrom(0, x.A, s.Cells-1) && x.B == 0 }

func (s site) hasCells(x api.Instr) bool { return x.A >= 0 && isFrom(1, x.B, s.Cells-x.A) }

func (s site) hasUnary(x api.Instr) bool { return isFrom(api.ENot, x.A, api.ENeg) && x.B == 0 }

func (s site) hasBinary(x api.Instr) bool { return isFrom(api.EOr, x.A, api.EMod) && x.B == 0 }

func (s site) hasFunction(x api.Instr) bool { return s.isBefore(x.A, api.UFunction) && x.B == 0 }

func (s site) hasStandard(x api.Instr) bool { return isFrom(0, x.A, len(s.arguments)-1) && x.B == 0 }

func (s site) hasPart(x api.Instr) bool {
	return isFrom(0, x.A, len(s.sizes)-1) && isFrom(0, x.B, s.Cells-s.sizes[x.A])
}

func (s site) hasBlock(x api.Instr) bool {
	return s.isBefore(x.A, api.UBlock) && isFrom(0, x.B, s.Cells-s.units[x.A].Cells)
}

func (s site) hasPlace(x api.Instr) bool { return isFrom(0, x.A, len(s.Code)-1) && x.B == 0 }

func (s site) hasDepth(x api.Instr) bool { return isFrom(0, x.A, api.MaxStack) && x.B == 0 }

// isBefore reports whether a unit of a kind has a position that is less than that of this unit.
func (s site) isBefore(at, kind int) bool {
	return isFrom(0, at, s.at-1) && s.units[at].Kind == kind
}
