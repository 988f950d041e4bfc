package code_test

import (
	"fmt"
	"math/rand"
	"slices"
	"strings"
	"testing"

	"winch/api"
	"winch/code"
	"winch/internal/samples"
)

// written returns the text of a code by the rules of the chapter.
func written(c api.Code) string {
	var all strings.Builder
	for _, u := range c.Units {
		fmt.Fprintf(&all, "unit %s %d %d %d\n", u.Name, u.Kind, u.Cells, u.Args)
		for _, x := range u.Code {
			fmt.Fprintf(&all, "  %s %d %d\n", ops()[x.Op-1], x.A, x.B)
		}
	}
	return all.String()
}

func TestText(t *testing.T) {
	c := assembled("unit f 3 5 2;load 1;load 2;binary 17;store 0;return;unit b 2 6 0;part 6 0;return;unit p 1 16 0;unit 1 0;const -5;now;call 0;std 0;false 7;jump 0;const 1;const 2;loadx 6 10;storex 7 9;const 0;pick 0;put 0;unary 6;drop;return")
	want := "unit f 3 5 2\n  load 1 0\n  load 2 0\n  binary 17 0\n  store 0 0\n  return 0 0\nunit b 2 6 0\n  part 6 0\n  return 0 0\nunit p 1 16 0\n  unit 1 0\n  const -5 0\n  now 0 0\n  call 0 0\n  std 0 0\n  false 7 0\n  jump 0 0\n  const 1 0\n  const 2 0\n  loadx 6 10\n  storex 7 9\n  const 0 0\n  pick 0 0\n  put 0 0\n  unary 6 0\n  drop 0 0\n  return 0 0\n"
	if got, err := code.Text(c); got != want || err != api.OK {
		t.Errorf("Text = %q, %d; want %q", got, err, want)
	}
	if got, line, err := code.Read(want); !code.Same(got, c) || line != 0 || err != api.OK {
		t.Errorf("Read = %v, %d, %d; want %v", got, line, err, c)
	}
	for _, c := range of(api.Code{}, assembled("unit p 1 0 0;drop;return"), assembled("unit P 1 0 0;return"), api.Code{Units: of(api.UnitCode{Name: "p", Kind: 1, Code: of(api.Instr{Op: 99}, api.Instr{Op: api.IReturn})})}) {
		if got, err := code.Text(c); got != "" || err != api.ErrCode {
			t.Errorf("Text(%v) = %q, %d", c, got, err)
		}
	}
}

func TestRead(t *testing.T) {
	const good = "unit p 1 2 0\n  load 0 0\n  store 1 0\n  return 0 0\n"
	for text, want := range map[string]struct {
		line int
		err  api.Errno
	}{
		good: {0, api.OK}, "": {0, api.ErrCode}, "\n": {1, api.ErrSyntax}, good + "\n": {5, api.ErrSyntax}, "\n" + good: {1, api.ErrSyntax}, good + "unit q 2 0 0\n  return 0 0\n": {0, api.OK}, good + "unit p 1 0 0\n  return 0 0\n": {0, api.ErrCode}, good + "unit q 1 0 0\n": {0, api.ErrCode}, "unit p 1 0 0\n": {0, api.ErrCode},
		// The line feed at the end of the last line.
		"unit p 1 2 0": {1, api.ErrSyntax}, good[:len(good)-1]: {4, api.ErrSyntax}, good + " ": {5, api.ErrSyntax}, good + "unit q 1 0 0": {5, api.ErrSyntax}, good + "  return 0 0": {5, api.ErrSyntax}, "unit": {1, api.ErrSyntax},
		// Instructions before the first unit.
		"  return 0 0\n": {1, api.ErrSyntax}, "  return 0 0\n" + good: {1, api.ErrSyntax}, "  nothing\n": {1, api.ErrSyntax},
		// Heads of units.
		"unit p 1 0\n  return 0 0\n": {1, api.ErrSyntax}, "unit p 1 0 0 0\n  return 0 0\n": {1, api.ErrSyntax}, "unit  p 1 0 0\n  return 0 0\n": {1, api.ErrSyntax}, "unit p  1 0 0\n  return 0 0\n": {1, api.ErrSyntax}, "unit p 1 0 0 \n  return 0 0\n": {1, api.ErrSyntax}, " unit p 1 0 0\n  return 0 0\n": {1, api.ErrSyntax}, "Unit p 1 0 0\n  return 0 0\n": {1, api.ErrSyntax}, "unit\n": {1, api.ErrSyntax}, "unit \n": {1, api.ErrSyntax}, "unit  1 0 0\n": {1, api.ErrSyntax}, "unitp 1 0 0\n": {1, api.ErrSyntax}, "unit p x 0 0\n": {1, api.ErrSyntax}, "unit p 1 0 0\r\n": {1, api.ErrSyntax}, "unit p 1 0 0\t\n": {1, api.ErrSyntax}, "unit p\t1 0 0\n": {1, api.ErrSyntax},
		"unit p 9 0 0\n  return 0 0\n": {0, api.ErrCode}, "unit p -1 0 0\n  return 0 0\n": {0, api.ErrCode}, "unit P 1 0 0\n  return 0 0\n": {0, api.ErrCode}, "unit ?! 1 0 0\n  return 0 0\n": {0, api.ErrCode}, "unit p\t 1 0 0\n  return 0 0\n": {0, api.ErrCode}, "unit unit 1 0 0\n  return 0 0\n": {0, api.OK}, "unit 5 1 0 0\n  return 0 0\n": {0, api.ErrCode}, "unit \xff 1 0 0\n  return 0 0\n": {0, api.ErrCode}, "unit if 1 0 0\n  return 0 0\n": {0, api.ErrCode}, "unit p 1 401 0\n  return 0 0\n": {0, api.ErrCode}, "unit p 1 9223372036854775807 0\n  return 0 0\n": {0, api.ErrCode}, "unit p 1 -9223372036854775808 0\n  return 0 0\n": {0, api.ErrCode}, "unit p 1 9223372036854775808 0\n  return 0 0\n": {1, api.ErrSyntax},
		// Instructions.
		good + " return 0 0\n": {5, api.ErrSyntax}, good + "   return 0 0\n": {5, api.ErrSyntax}, good + "return 0 0\n": {5, api.ErrSyntax}, good + "\treturn 0 0\n": {5, api.ErrSyntax}, good + "  return 0\n": {5, api.ErrSyntax}, good + "  return\n": {5, api.ErrSyntax}, good + "  return 0 0 0\n": {5, api.ErrSyntax}, good + "  return 0 0 \n": {5, api.ErrSyntax}, good + "  return  0 0\n": {5, api.ErrSyntax}, good + "  return 0  0\n": {5, api.ErrSyntax}, good + "  Return 0 0\n": {5, api.ErrSyntax}, good + "  ret 0 0\n": {5, api.ErrSyntax}, good + "   0 0\n": {5, api.ErrSyntax}, good + "  \n": {5, api.ErrSyntax}, good + "  unit 0 0\n": {0, api.ErrCode}, good + "  return 0 0\n": {0, api.OK}, good + "  drop 0 0\n": {0, api.ErrCode}, good + "  drop 0 0\n  return 0 0\n": {0, api.OK},
		good + "  return 00 0\n": {5, api.ErrSyntax}, good + "  return 0 00\n": {5, api.ErrSyntax}, good + "  return 0 01\n": {5, api.ErrSyntax}, good + "  return -0 0\n": {5, api.ErrSyntax}, good + "  return +1 0\n": {5, api.ErrSyntax}, good + "  return 0x1 0\n": {5, api.ErrSyntax}, good + "  return 1_0 0\n": {5, api.ErrSyntax}, good + "  return -01 0\n": {5, api.ErrSyntax}, good + "  return - 0\n": {5, api.ErrSyntax}, good + "  return a 0\n": {5, api.ErrSyntax}, good + "  return 1.0 0\n": {5, api.ErrSyntax}, good + "  return 0 1\n": {0, api.ErrCode}, good + "  return -1 0\n": {0, api.ErrCode}, good + "  const -2147483648 0\n  return 0 0\n": {0, api.OK}, good + "  const -2147483649 0\n  return 0 0\n": {0, api.ErrCode}, good + "  const 9223372036854775808 0\n  return 0 0\n": {5, api.ErrSyntax}, good + "  const -9223372036854775809 0\n": {5, api.ErrSyntax},
		// The first one of several wrong lines, before what is wrong with the code.
		"unit p 9 0 0\n  x\n  y\n": {2, api.ErrSyntax}, good + "  return 0 0\n  x": {6, api.ErrSyntax}, "unit P 1 0 0\n  return 0 0\n\nunit q": {3, api.ErrSyntax}, "unit p 1 0 0\n\n": {2, api.ErrSyntax},
	} {
		c, line, err := code.Read(text)
		if line != want.line || err != want.err || (len(c.Units) > 0) != (err == api.OK) {
			t.Errorf("Read(%q) = %v, %d, %d; want %d, %d", text, c, line, err, want.line, want.err)
		}
	}
}

// TestTexts is about P15.5: what is read from texts, and from texts in which something is changed.
func TestTexts(t *testing.T) {
	t.Parallel()
	r := rand.New(rand.NewSource(3))
	m := samples.New(r.Intn)
	found := map[api.Errno]int{}
	for range 3000 {
		c := m.Code()
		text, err := code.Text(c)
		if text != written(c) || err != api.OK {
			t.Fatalf("Text(%v) = %q, %d", c, text, err)
		}
		if got, line, err := code.Read(text); !code.Same(got, c) || line != 0 || err != api.OK {
			t.Fatalf("Read(%q) = %v, %d, %d; want %v", text, got, line, err, c)
		}
		at := r.Intn(len(text))
		part := of("", " ", "\n", "0", "1", "-", "9", "x", "\n  drop 0 0", "\nunit u0 1 0 0\n")[r.Intn(10)]
		changed := text[:at] + part + text[at+r.Intn(2):]
		got, line, err := code.Read(changed)
		found[err]++
		switch err {
		case api.OK:
			if again, _ := code.Text(got); again != changed || line != 0 {
				t.Fatalf("Read(%q) = %v, %d", changed, got, line)
			}
		case api.ErrCode:
			if line != 0 || len(got.Units) > 0 {
				t.Fatalf("Read(%q) = %v, %d, %d", changed, got, line, err)
			}
		case api.ErrSyntax:
			// All lines before it can be those of some code, and it can't.
			lines := strings.SplitAfter(changed, "\n")
			_, before, _ := code.Read(strings.Join(lines[:line-1], ""))
			if first := strings.Count(text[:at], "\n") + 1; before != 0 || len(got.Units) > 0 || line < first || line > first+2 || !slices.Contains(lines, lines[line-1]) {
				t.Fatalf("Read(%q) = %v, %d, %d", changed, got, line, err)
			}
		default:
			t.Fatalf("Read(%q): %d", changed, err)
		}
	}
	for _, err := range of(api.OK, api.ErrCode, api.ErrSyntax) {
		if found[err] < 100 {
			t.Errorf("%v", found)
		}
	}
}
