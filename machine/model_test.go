package machine_test

import (
	"winch/api"
	"winch/parts"
	"winch/types"
)

// model is a second machine: it executes a unit by calling itself, and writes down all that it executes, as a list of units and places.
type model struct {
	c        api.Code
	now      int
	fault    int
	executed [][2]int
}

// of returns a list.
func of[T any](l ...T) []T { return l }

// run executes a unit with its cells, up to a fault.
func (m *model) run(unit int, cells []int) {
	u := m.c.Units[unit]
	var stack []int
	pop := func() int {
		v := stack[len(stack)-1]
		stack = stack[:len(stack)-1]
		return v
	}
	push := func(n int64) { stack = append(stack, int(int32(n))) }
	for at := 0; ; {
		if len(m.executed) == 20000 {
			m.fault = api.FFuel
			return
		}
		m.executed = append(m.executed, [2]int{unit, at})
		x := u.Code[at]
		at++
		switch x.Op {
		case api.IConst:
			stack = append(stack, x.A)
		case api.ILoad:
			stack = append(stack, cells[x.A])
		case api.IStore:
			cells[x.A] = pop()
		case api.ILoadX, api.IStoreX:
			index := pop()
			if x.Op == api.IStoreX {
				v := pop()
				if index >= 0 && index < x.B {
					cells[x.A+index] = v
				}
			} else if index >= 0 && index < x.B {
				stack = append(stack, cells[x.A+index])
			}
			if index < 0 || index >= x.B {
				m.fault = api.FIndex
				return
			}
		case api.IUnary:
			if v := int64(pop()); x.A == api.ENot {
				push(1 - v&1)
			} else {
				push(-v)
			}
		case api.IBinary:
			w, v := int64(pop()), int64(pop())
			if (x.A == api.EDiv || x.A == api.EMod) && w == 0 {
				m.fault = api.FZero
				return
			}
			push(binary(x.A, v, w))
		case api.ICall:
			f := m.c.Units[x.A]
			frame := make([]int, f.Cells)
			for i := f.Args; i > 0; i-- {
				frame[i] = pop()
			}
			if m.run(x.A, frame); m.fault != 0 {
				return
			}
			stack = append(stack, frame[0])
		case api.IStd:
			args := []int{pop(), 0, 0}
			for i := 1; i < []int{1, 3, 2, 2, 3, 1, 1, 1}[x.A]; i++ {
				args[i] = pop()
			}
			push(standard(x.A, args[0], args[1], args[2]))
		case api.IPart:
			name := parts.Names()[x.A]
			variables, _ := types.Standard(name)
			frame := cells[x.B : x.B+len(variables)]
			for i, v := range variables {
				if v.Type.Kind == api.KBool {
					frame[i] &= 1
				}
			}
			after, _ := parts.Scan(name, frame, m.now)
			copy(frame, after)
		case api.IUnit:
			if m.run(x.A, cells[x.B:x.B+m.c.Units[x.A].Cells]); m.fault != 0 {
				return
			}
		case api.IJump:
			at = x.A
		case api.IFalse:
			if pop() == 0 {
				at = x.A
			}
		case api.IReturn:
			return
		case api.IPick:
			stack = append(stack, stack[len(stack)-1-x.A])
		case api.IPut:
			v := pop()
			stack[len(stack)-1-x.A] = v
		case api.IDrop:
			pop()
		case api.INow:
			stack = append(stack, m.now)
		}
	}
}

func binary(op int, v, w int64) int64 {
	is := map[int]bool{api.EEq: v == w, api.ENe: v != w, api.ELt: v < w, api.ELe: v <= w, api.EGt: v > w, api.EGe: v >= w}
	switch op {
	case api.EOr:
		return (v | w) & 1
	case api.EXor:
		return (v ^ w) & 1
	case api.EAnd:
		return v & w & 1
	case api.EAdd:
		return v + w
	case api.ESub:
		return v - w
	case api.EMul:
		return v * w
	case api.EDiv:
		return v / w
	case api.EMod:
		return v % w
	}
	if is[op] {
		return 1
	}
	return 0
}

// standard returns the result of a standard function; the last argument comes first.
func standard(number, a, b, c int) int64 {
	switch number {
	case 0:
		if a < 0 {
			a = -a
		}
	case 1:
		// limit(c, b, a)
		a = min(max(c, b), a)
	case 2:
		a = max(a, b)
	case 3:
		a = min(a, b)
	case 4:
		// sel(c, b, a)
		if c&1 == 0 {
			a = b
		}
	case 5:
		if a != 0 {
			a = 1
		}
	case 7:
		a = max(a, 0)
	}
	return int64(a)
}

// scan returns what a scan makes, and all that it executes.
func scan(c api.Code, unit int, cells []int, now int) ([]int, int, [][2]int) {
	m := &model{c: c, now: now}
	after := append([]int{}, cells...)
	m.run(unit, after)
	if m.fault != 0 {
		after = append([]int{}, cells...)
	}
	return after, m.fault, m.executed
}
