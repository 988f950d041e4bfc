package machine

import (
	"winch/api"
	"winch/eval"
	"winch/parts"
)

func (f *frame) push(v int) {
	f.stack = append(f.stack, v)
}

func (f *frame) pop() int {
	last := len(f.stack) - 1
	v := f.stack[last]
	f.stack = f.stack[:last]
	return v
}

// popped returns the last values of the stack, in the order in which they were pushed, and takes them away.
func (f *frame) popped(count int) []int {
	rest := len(f.stack) - count
	l := make([]int, count)
	copy(l, f.stack[rest:])
	f.stack = f.stack[:rest]
	return l
}

// truth returns a value of a cell that has a KBool.
func truth(v int) int { return v & 1 }

// wantsTruth reports whether the operands of an operator are KBools.
func wantsTruth(op int) bool {
	return op == api.ENot || op == api.EOr || op == api.EXor || op == api.EAnd
}

// operand pops the operand of an operator.
func (f *frame) operand(op int) int {
	v := f.pop()
	if wantsTruth(op) {
		return truth(v)
	}
	return v
}

func (m *machine) constant(x api.Instr) fault {
	m.push(x.A)
	return nil
}

func (m *machine) load(x api.Instr) fault {
	m.push(m.cells[x.A])
	return nil
}

func (m *machine) store(x api.Instr) fault {
	m.cells[x.A] = m.pop()
	return nil
}

func (m *machine) loadIndexed(x api.Instr) fault {
	index := m.pop()
	if index < 0 || index >= x.B {
		return outside{}
	}
	m.push(m.cells[x.A+index])
	return nil
}

func (m *machine) storeIndexed(x api.Instr) fault {
	index := m.pop()
	v := m.pop()
	if index < 0 || index >= x.B {
		return outside{}
	}
	m.cells[x.A+index] = v
	return nil
}

func (m *machine) unary(x api.Instr) fault {
	v, _ := eval.Unary(x.A, m.operand(x.A))
	m.push(v)
	return nil
}

func (m *machine) binary(x api.Instr) fault {
	w := m.operand(x.A)
	v := m.operand(x.A)
	result, found, _ := eval.Binary(x.A, v, w)
	// A division by 0 is the only fault of an operator.
	if found != api.FNone {
		return byZero{}
	}
	m.push(result)
	return nil
}

func (m *machine) call(x api.Instr) fault {
	function := m.units[x.A]
	cells := make([]int, function.Cells)
	copy(cells[1:], m.popped(function.Args))
	f := m.execute(x.A, cells)
	if f == nil {
		m.push(cells[0])
	}
	return f
}

// makeTruths makes values of some kinds such that those of KBools are 0 or 1.
func makeTruths(kinds, l []int) {
	for i, kind := range kinds {
		if kind == api.KBool {
			l[i] = truth(l[i])
		}
	}
}

func (m *machine) standard(x api.Instr) fault {
	function := m.functions[x.A]
	args := m.popped(len(function.Inputs))
	makeTruths(function.Inputs, args)
	v, _ := eval.Call(function.Name, args)
	m.push(v)
	return nil
}

func (m *machine) part(x api.Instr) fault {
	block := m.blocks[x.A]
	cells := m.cells[x.B : x.B+len(block.Cells)]
	makeTruths(block.Cells, cells)
	after, _ := parts.Scan(block.Name, cells, m.now)
	copy(cells, after)
	return nil
}

func (m *machine) unit(x api.Instr) fault {
	return m.execute(x.A, m.cells[x.B:x.B+m.units[x.A].Cells])
}

func (m *machine) jump(x api.Instr) fault {
	m.frame.at = x.A
	return nil
}

func (m *machine) jumpIfFalse(x api.Instr) fault {
	if m.pop() == 0 {
		m.frame.at = x.A
	}
	return nil
}

func (m *machine) end(api.Instr) fault {
	m.frame.at = done
	return nil
}

func (m *machine) pick(x api.Instr) fault {
	m.push(m.stack[len(m.stack)-1-x.A])
	return nil
}

func (m *machine) put(x api.Instr) fault {
	v := m.pop()
	m.stack[len(m.stack)-1-x.A] = v
	return nil
}

func (m *machine) drop(api.Instr) fault {
	m.pop()
	return nil
}

func (m *machine) time(api.Instr) fault {
	m.push(m.now)
	return nil
}
