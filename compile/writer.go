package compile

import "winch/api"

// writer writes instructions: depth is that of the stack before the next one.
type writer struct {
	code  []api.Instr
	depth int
}

// add adds an instruction behind which there are some more values on the stack.
func (w *writer) add(op, a, b, change int) {
	w.code = append(w.code, api.Instr{Op: op, A: a, B: b})
	w.depth += change
}

func (w *writer) constant(n int) { w.add(api.IConst, n, 0, 1) }

func (w *writer) load(at int) { w.add(api.ILoad, at, 0, 1) }

func (w *writer) unary(op int) { w.add(api.IUnary, op, 0, 0) }

func (w *writer) binary(op int) { w.add(api.IBinary, op, 0, -1) }

// pick pushes the value that is some places below the top once more.
func (w *writer) pick(below int) { w.add(api.IPick, below, 0, 1) }

// put pops a value, and puts it in the place of the one that is then some places below the top.
func (w *writer) put(below int) { w.add(api.IPut, below, 0, -1) }

func (w *writer) drop(count int) {
	for range count {
		w.add(api.IDrop, 0, 0, -1)
	}
}

// notIf negates the value on the top, if it is to be negated.
func (w *writer) notIf(is bool) {
	if is {
		w.unary(api.ENot)
	}
}

// compare pushes whether a cell compares to a number.
func (w *writer) compare(at, op, n int) {
	w.load(at)
	w.constant(n)
	w.binary(op)
}

// place returns the place of the next instruction.
func (w *writer) place() int { return len(w.code) }

// jumpTo adds an IJump or an IFalse that leads to a place.
func (w *writer) jumpTo(op, place int) {
	change := 0
	if op == api.IFalse {
		change = -1
	}
	w.add(op, place, 0, change)
}

// jumpLater adds an IJump or an IFalse, and returns what makes it lead to a place.
func (w *writer) jumpLater(op int) (lead func(place int)) {
	at := w.place()
	w.jumpTo(op, 0)
	return func(place int) { w.code[at].A = place }
}

// jump adds an IJump or an IFalse, and returns what makes it lead to the place that is the next one then.
func (w *writer) jump(op int) (land func()) {
	lead := w.jumpLater(op)
	depth := w.depth
	return func() {
		lead(w.place())
		w.depth = depth
	}
}

// landAll makes jumps lead to the next place.
func landAll(jumps []func()) {
	for _, land := range jumps {
		land()
	}
}

// labels are the places of a list or a ladder that have names, and the jumps that are to lead there.
type labels struct {
	places map[string]int
	jumps  []func()
}

func newLabels() *labels {
	return &labels{places: map[string]int{}}
}

// lead makes a jump lead to a label at last.
func (l *labels) lead(lead func(place int), name string) {
	l.jumps = append(l.jumps, func() { lead(l.places[name]) })
}
