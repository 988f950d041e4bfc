package code

import (
	"strings"

	"winch/api"
)

// head is what the bytes of a packed code begin with.
const head = "wn1"

// packed returns the packed form of a valid code.
func packed(c api.Code) string {
	w := &packer{bytes: []byte(head)}
	w.number(len(c.Units))
	for _, u := range c.Units {
		w.number(len(u.Name))
		w.bytes = append(w.bytes, u.Name...)
		w.number(u.Kind)
		w.number(u.Cells)
		w.number(u.Args)
		w.number(len(u.Code))
		for _, x := range u.Code {
			w.instruction(x)
		}
	}
	sum := Sum(string(w.bytes))
	return string(append(w.bytes, byte(sum>>24), byte(sum>>16), byte(sum>>8), byte(sum)))
}

// packer writes the bytes of a packed code.
type packer struct{ bytes []byte }

func (w *packer) number(n int) {
	for ; n > 127; n /= 128 {
		w.bytes = append(w.bytes, byte(128+n%128))
	}
	w.bytes = append(w.bytes, byte(n))
}

func (w *packer) signed(n int) {
	if n < 0 {
		w.number(-2*n - 1)
		return
	}
	w.number(2 * n)
}

func (w *packer) instruction(x api.Instr) {
	write := w.number
	if x.Op == api.IConst {
		write = w.signed
	}
	w.bytes = append(w.bytes, byte(x.Op))
	write(x.A)
	w.number(x.B)
}

// unpacked returns the code that can be read from bytes, even if they are not its packed form; an empty one, if none can be read.
func unpacked(bytes string) (c api.Code) {
	defer func() {
		if recover() != nil {
			c = api.Code{}
		}
	}()
	r := &unpacker{strings.TrimPrefix(bytes, head)}
	for range r.number() {
		c.Units = append(c.Units, r.unit())
	}
	return c
}

// unpacker reads the bytes that are left of a packed code.
type unpacker struct{ bytes string }

func (r *unpacker) byte() int {
	return int(r.name(1)[0])
}

// name returns the next bytes, of which there must be so many.
func (r *unpacker) name(length int) string {
	failIf(length > len(r.bytes))
	name := r.bytes[:length]
	r.bytes = r.bytes[length:]
	return name
}

// number returns the next number. No number of a valid code has more than 35 bits.
func (r *unpacker) number() int {
	n := 0
	for shift := 0; ; shift += 7 {
		failIf(shift > 28)
		b := r.byte()
		n += b % 128 << shift
		if b < 128 {
			return n
		}
	}
}

func (r *unpacker) signed() int {
	n := r.number()
	if n%2 == 1 {
		return -(n + 1) / 2
	}
	return n / 2
}

func (r *unpacker) unit() api.UnitCode {
	u := api.UnitCode{Name: r.name(r.number())}
	u.Kind, u.Cells, u.Args = r.number(), r.number(), r.number()
	for range r.number() {
		u.Code = append(u.Code, r.instruction())
	}
	return u
}

func (r *unpacker) instruction() api.Instr {
	x := api.Instr{Op: r.byte()}
	read := r.number
	if x.Op == api.IConst {
		read = r.signed
	}
	x.A = read()
	x.B = r.number()
	return x
}
