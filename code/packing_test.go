package code_test

import (
	"fmt"
	"hash/crc32"
	"math"
	"math/rand"
	"strings"
	"testing"

	"winch/api"
	"winch/code"
	"winch/internal/samples"
)

// signed returns bytes with the sum of those before it.
func signed(bytes string) string {
	n := crc32.ChecksumIEEE([]byte(bytes))
	return bytes + string([]byte{byte(n >> 24), byte(n >> 16), byte(n >> 8), byte(n)})
}

// varint returns the bytes of a number.
func varint(n int) string {
	if n > 127 {
		return string([]byte{byte(128 + n%128)}) + varint(n/128)
	}
	return string([]byte{byte(n)})
}

// packed returns the packed form of a code by the rules of the chapter.
func packed(c api.Code) string {
	bytes := "wn1" + varint(len(c.Units))
	for _, u := range c.Units {
		bytes += varint(len(u.Name)) + u.Name + varint(u.Kind) + varint(u.Cells) + varint(u.Args) + varint(len(u.Code))
		for _, x := range u.Code {
			a := x.A
			if x.Op == api.IConst {
				a *= 2
				if x.A < 0 {
					a = -a - 1
				}
			}
			bytes += string([]byte{byte(x.Op)}) + varint(a) + varint(x.B)
		}
	}
	return signed(bytes)
}

func TestPack(t *testing.T) {
	for text, want := range map[string]string{
		"unit p 1 2 0;load 0;unary 6;store 1;return":                                                                  "wn1\x01\x01p\x01\x02\x00\x04\x02\x00\x00\x06\x06\x00\x03\x01\x00\x0e\x00\x00",
		"unit ab 3 400 32;const -1;store 0;return;unit c 2 0 0;jump 0":                                                "wn1\x02\x02ab\x03\x90\x03\x20\x03\x01\x01\x00\x03\x00\x00\x0e\x00\x00\x01c\x02\x00\x00\x01\x0c\x00\x00",
		"unit p 1 300 0;const 63;const 64;loadx 127 128;storex 128 1;jump 0":                                          "wn1\x01\x01p\x01\xac\x02\x00\x05\x01\x7e\x00\x01\x80\x01\x00\x04\x7f\x80\x01\x05\x80\x01\x01\x0c\x00\x00",
		"unit p 1 0 0;const 2147483647;drop;const -2147483648;drop;const -64;drop;const -65;drop;const 0;drop;return": "wn1\x01\x01p\x01\x00\x00\x0b\x01\xfe\xff\xff\xff\x0f\x00\x11\x00\x00\x01\xff\xff\xff\xff\x0f\x00\x11\x00\x00\x01\x7f\x00\x11\x00\x00\x01\x81\x01\x00\x11\x00\x00\x01\x00\x00\x11\x00\x00\x0e\x00\x00",
	} {
		c := assembled(text)
		if got, err := code.Pack(c); got != signed(want) || err != api.OK {
			t.Errorf("Pack(%s) = %q, %d; want %q", text, got, err, signed(want))
		}
		if got, err := code.Unpack(signed(want)); !code.Same(got, c) || err != api.OK {
			t.Errorf("Unpack(%q) = %v, %d; want %v", signed(want), got, err, c)
		}
	}
	for _, c := range of(api.Code{}, assembled("unit p 1 0 0;drop;return"), assembled("unit p 1 0 0;const 2147483648;drop;return"), assembled("unit P 1 0 0;return")) {
		if got, err := code.Pack(c); got != "" || err != api.ErrCode {
			t.Errorf("Pack(%v) = %q, %d", c, got, err)
		}
		if got, err := code.Unpack(packed(c)); len(got.Units) > 0 || err != api.ErrBytes {
			t.Errorf("Unpack of %v = %v, %d", c, got, err)
		}
	}
}

// TestUnpack has bytes whose sum is right, but not what they are the sum of.
func TestUnpack(t *testing.T) {
	const good = "wn1\x01\x01p\x01\x02\x00\x04\x02\x00\x00\x06\x06\x00\x03\x01\x00\x0e\x00\x00"
	for _, bytes := range of("", "w", "wn", "wn1", "wn2"+good[3:], "WN1"+good[3:], "wn1\x00", good[1:], good+"\x00", good+good, "wn1\x02"+good[4:],
		// Numbers that are longer than they must be, or longer than any number.
		"wn1\x81\x00"+good[4:], "wn1\x01\x81\x00"+good[5:], "wn1\x01\x01p\x81\x80\x00"+good[7:], "wn1\x01\x01p\x01\x02\x00\x04\x02\x80\x00\x00"+good[13:], "wn1\x01\x01p\x01\x02\x00\x04\x02\x80\x80\x80\x80\x80\x80\x80\x80\x80\x80\x80\x00\x00"+good[13:], "wn1\x81\x80\x80\x80\x80\x80\x80\x80\x80\x02"+good[4:], "wn1\xff\xff\xff\xff\xff\xff\xff\xff\xff\xff\xff\x7f", "wn1\xff\xff\xff\xff\x7f", "wn1\x01\xff\xff\xff\xff\x7fp", "wn1\x01\xff\xff\xff\xff\xff\xff\xff\xff\x7fp", "wn1\x01\xff\xff\xff\xff\xff\xff\xff\xff\xff\x01p", "wn1\x01\x01p\x01\x02\x00\xff\xff\xff\xff\x7f\x02",
		// Constants that are no values.
		"wn1\x01\x01p\x01\x00\x00\x03\x01\x80\x80\x80\x80\x10\x00\x11\x00\x00\x0e\x00\x00", "wn1\x01\x01p\x01\x00\x00\x03\x01\x81\x80\x80\x80\x10\x00\x11\x00\x00\x0e\x00\x00",
		"wn1\x01\x00\x01\x00\x00\x01\x0e\x00\x00", "wn1\x01\x01P\x01\x00\x00\x01\x0e\x00\x00", "wn1\x01\x01p\x00\x00\x00\x01\x0e\x00\x00", "wn1\x01\x01p\x01\x00\x00\x01\x00\x00\x00", "wn1\x01\x01p\x01\x00\x00\x01\x13\x00\x00", "wn1\x01\x01p\x01\x00\x00\x01\xff\x00\x00", "wn1\x01\x01p\x01\x00\x00\x01\x0e\x01\x00", "wn1\x01\x01p\x01\x00\x00\x01\x0e\x00\x01", "wn1\x01\x01p\x01\x00\x00\x00", "wn1\x01\x01p\x01\x00\x01\x01\x0e\x00\x00", "wn1\x02\x01p\x01\x00\x00\x01\x0e\x00\x00\x01p\x01\x00\x00\x01\x0e\x00\x00") {
		for _, s := range of(bytes, signed(bytes), signed(signed(bytes))) {
			if got, err := code.Unpack(s); len(got.Units) > 0 || err != api.ErrBytes {
				t.Errorf("Unpack(%q) = %v, %d", s, got, err)
			}
		}
	}
	if c, err := code.Unpack(signed(good)); len(c.Units) != 1 || err != api.OK {
		t.Errorf("Unpack(%q) = %v, %d", signed(good), c, err)
	}
	for i := range len(good) {
		for _, s := range of(good[:i], signed(good[:i]), signed(good)[:i], signed(good)[i+1:]) {
			if got, err := code.Unpack(s); len(got.Units) > 0 || err != api.ErrBytes {
				t.Errorf("Unpack(%q) = %v, %d", s, got, err)
			}
		}
	}
}

// TestBytes is about P15.5: what is packed, and what is unpacked when one byte is changed.
func TestBytes(t *testing.T) {
	t.Parallel()
	r := rand.New(rand.NewSource(4))
	m := samples.New(r.Intn)
	for range 1000 {
		c := m.Code()
		before := fmt.Sprint(c)
		bytes, err := code.Pack(c)
		if bytes != packed(c) || err != api.OK || fmt.Sprint(c) != before {
			t.Fatalf("Pack(%v) = %q, %d", c, bytes, err)
		}
		if got, err := code.Unpack(bytes); !code.Same(got, c) || err != api.OK {
			t.Fatalf("Unpack(%q) = %v, %d; want %v", bytes, got, err, c)
		}
		for range 40 {
			l := []byte(bytes)
			l[r.Intn(len(l))] ^= byte(1 + r.Intn(255))
			if got, err := code.Unpack(string(l)); len(got.Units) > 0 || err != api.ErrBytes {
				t.Fatalf("Unpack(%q) = %v, %d; it is %q with one byte changed", l, got, err, bytes)
			}
		}
		// Changes under a sum that is right.
		l := []byte(bytes[:len(bytes)-4])
		l[r.Intn(len(l))] = byte(r.Intn(256))
		changed := signed(string(l))
		got, err := code.Unpack(changed)
		if again, _ := code.Pack(got); err == api.OK && again != changed || err != api.OK && (err != api.ErrBytes || len(got.Units) > 0) {
			t.Fatalf("Unpack(%q) = %v, %d", changed, got, err)
		}
	}
}

// TestLongest has packed codes of about as many bytes as there can be.
func TestLongest(t *testing.T) {
	unit := func(name string, pairs int) string {
		return "unit " + name + " 1 0 0;" + repeated("const -2147483648;drop", pairs) + ";return"
	}
	l := of(unit("u", 1499), unit("v", 1499), unit("w", 1499))
	// The last unit fills what is left with as many pairs of a constant and a drop as fit, which have 10 bytes, and with its name.
	size := func(name string, pairs int) int {
		return len(packed(assembled(strings.Join(append(l, unit(name, pairs)), ";"))))
	}
	pairs := 1000 + (api.MaxBytes-size("p", 1000))/10
	rest := api.MaxBytes - size("p", pairs)
	for _, x := range []struct {
		name string
		want api.Errno
	}{
		{strings.Repeat("p", 1+rest), api.OK}, {strings.Repeat("p", 2+rest), api.ErrFull},
	} {
		c := assembled(strings.Join(append(l, unit(x.name, pairs)), ";"))
		want := packed(c)
		if isFull := len(want) > api.MaxBytes; isFull != (x.want == api.ErrFull) || len(want) < api.MaxBytes || len(want) > api.MaxBytes+1 {
			t.Fatalf("%d bytes", len(want))
		}
		got, err := code.Pack(c)
		if err != x.want || err == api.OK && got != want || err != api.OK && got != "" {
			t.Errorf("Pack: %d bytes, %d; want %d bytes, %d", len(got), err, len(want), x.want)
		}
		d, err := code.Unpack(want)
		if isOK := err == api.OK; isOK != (x.want == api.OK) || isOK != code.Same(c, d) || !isOK && (err != api.ErrBytes || len(d.Units) > 0) {
			t.Errorf("Unpack of %d bytes: %d units, %d", len(want), len(d.Units), err)
		}
	}
	if c, err := code.Unpack(signed("wn1" + strings.Repeat("\xff", 1<<20))); len(c.Units) > 0 || err != api.ErrBytes {
		t.Errorf("Unpack of many bytes: %d", err)
	}
}

func TestSum(t *testing.T) {
	for bytes, want := range map[string]int{"": 0, "123456789": 3421780262, "a": 3904355907, "\x00": 3523407757, "\xff\xff\xff\xff": math.MaxUint32} {
		if got := code.Sum(bytes); got != want {
			t.Errorf("Sum(%q) = %d; want %d", bytes, got, want)
		}
	}
	r := rand.New(rand.NewSource(5))
	for range 2000 {
		l := make([]byte, r.Intn(200))
		r.Read(l)
		if got := code.Sum(string(l)); got != int(crc32.ChecksumIEEE(l)) {
			t.Errorf("Sum(%q) = %d", l, got)
		}
	}
}
