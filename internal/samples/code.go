package samples

import (
	"strconv"

	"winch/api"
	"winch/parts"
	"winch/types"
)

// Code returns a random valid code: of some functions and blocks, and of programs that execute them. It can be executed for ever.
func (m *Maker) Code() api.Code {
	var c api.Code
	for i := range 1 + m.Choose(4) {
		u := api.UnitCode{Name: "u" + strconv.Itoa(i), Kind: api.UProgram + m.Choose(3), Cells: m.Choose(12)}
		if u.Kind == api.UFunction {
			u.Args = m.Choose(3)
			u.Cells += 1 + u.Args
		}
		w := &writer{Maker: m, units: c.Units, unit: u, depth: 0}
		c.Units = append(c.Units, w.whole())
	}
	return c
}

// writer writes the instructions of a unit: depth is that of the stack before the next one, depths those before the ones that are
// there, waiting the jumps that do not lead anywhere yet.
type writer struct {
	*Maker
	units   []api.UnitCode
	unit    api.UnitCode
	depth   int
	depths  []int
	waiting []int
}

// whole writes all instructions, and returns the unit.
func (w *writer) whole() api.UnitCode {
	for range w.Choose(8 * w.Size) {
		w.land(2)
		w.next()
	}
	for w.depth > 0 {
		w.land(1)
		w.add(api.IDrop, 0, 0, -1)
	}
	w.land(1)
	w.add(api.IReturn, 0, 0, 0)
	for _, at := range w.waiting {
		w.unit.Code[at].A = w.place(at)
	}
	return w.unit
}

// add adds an instruction behind which there are some more values on the stack.
func (w *writer) add(op, a, b, change int) {
	w.unit.Code = append(w.unit.Code, api.Instr{Op: op, A: a, B: b})
	w.depths = append(w.depths, w.depth)
	w.depth += change
}

// after returns the depth of the stack after the jump at a place.
func (w *writer) after(at int) int {
	if w.unit.Code[at].Op == api.IFalse {
		return w.depths[at] - 1
	}
	return w.depths[at]
}

// land makes jumps that wait lead to the next place, if they fit; each one once in n times.
func (w *writer) land(n int) {
	var left []int
	for _, at := range w.waiting {
		if w.after(at) == w.depth && w.isOnce(n) {
			w.unit.Code[at].A = len(w.unit.Code)
		} else {
			left = append(left, at)
		}
	}
	w.waiting = left
}

// place returns a place to which the jump at a place can lead: the first one that is found from a random one on.
func (w *writer) place(at int) int {
	count := len(w.unit.Code)
	for i := w.Choose(count); ; i = (i + 1) % count {
		if w.depths[i] == w.after(at) {
			return i
		}
	}
}

// next adds an instruction that can stand here, most often; none, if the one that is chosen can't.
func (w *writer) next() {
	switch w.Choose(16) {
	case 0, 1:
		w.push()
	case 2, 3, 4, 5:
		w.cells()
	case 6, 7, 8:
		w.operator()
	case 9:
		w.call()
	case 10:
		w.block()
	case 11:
		if w.depth > 0 {
			w.waiting = append(w.waiting, len(w.unit.Code))
			w.add(api.IFalse, 0, 0, -1)
		}
	case 12:
		w.jump()
	case 13:
		if w.depth > 0 && w.depth < api.MaxStack {
			w.add(api.IPick, w.Choose(w.depth), 0, 1)
		}
	case 14:
		if w.depth > 1 {
			w.add(api.IPut, w.Choose(w.depth-1), 0, -1)
		}
	case 15:
		if w.depth > 0 {
			w.add(api.IDrop, 0, 0, -1)
		}
	}
}

func (w *writer) push() {
	switch {
	case w.depth == api.MaxStack:
	case w.isOnce(8):
		w.add(api.INow, 0, 0, 1)
	default:
		w.add(api.IConst, w.Value(api.KInt), 0, 1)
	}
}

// cells adds an instruction that reads or writes a cell.
func (w *writer) cells() {
	if w.unit.Cells == 0 {
		return
	}
	a := w.Choose(w.unit.Cells)
	b := 1 + w.Choose(w.unit.Cells-a)
	switch x := w.Choose(6); {
	case x < 3 && w.depth < api.MaxStack:
		w.add(api.ILoad, a, 0, 1)
	case x == 3 && w.depth > 0:
		w.add(api.ILoadX, a, b, 0)
	case x == 4 && w.depth > 0:
		w.add(api.IStore, a, 0, -1)
	case x == 5 && w.depth > 1:
		w.add(api.IStoreX, a, b, -2)
	}
}

func (w *writer) operator() {
	args := []int{1, 3, 2, 2, 3, 1, 1, 1}
	standard := w.Choose(len(args))
	switch x := w.Choose(5); {
	case x < 1 && w.depth > 0:
		w.add(api.IUnary, api.ENot+w.Choose(2), 0, 0)
	case x < 4 && w.depth > 1:
		w.add(api.IBinary, api.EOr+w.Choose(14), 0, -1)
	case x == 4 && w.depth >= args[standard]:
		w.add(api.IStd, standard, 0, 1-args[standard])
	}
}

// call adds the call of a function, if there is one.
func (w *writer) call() {
	if len(w.units) == 0 {
		return
	}
	at := w.Choose(len(w.units))
	u := w.units[at]
	if u.Kind == api.UFunction && w.depth >= u.Args && w.depth < api.MaxStack {
		w.add(api.ICall, at, 0, 1-u.Args)
	}
}

// block adds the execution of a block, if there is one that fits.
func (w *writer) block() {
	names := parts.Names()
	part := w.Choose(len(names))
	variables, _ := types.Standard(names[part])
	op, a, size := api.IPart, part, len(variables)
	if len(w.units) > 0 && w.isOnce(2) {
		at := w.Choose(len(w.units))
		if w.units[at].Kind == api.UBlock {
			op, a, size = api.IUnit, at, w.units[at].Cells
		}
	}
	if size <= w.unit.Cells {
		w.add(op, a, w.Choose(w.unit.Cells-size+1), 0)
	}
}

// jump adds a jump, or the end of the unit. What is behind it can be reached by a jump that waits, if there is one.
func (w *writer) jump() {
	if w.depth == 0 && w.isOnce(3) {
		w.add(api.IReturn, 0, 0, 0)
	} else {
		w.waiting = append(w.waiting, len(w.unit.Code))
		w.add(api.IJump, 0, 0, 0)
	}
	at := w.waiting[w.Choose(max(1, len(w.waiting))):]
	if len(at) > 0 {
		w.depth = w.after(at[0])
	}
}
