package chart_test

import (
	"fmt"
	"math/rand"
	"reflect"
	"strings"
	"testing"

	"winch/api"
	"winch/chart"
)

func TestFlatten(t *testing.T) {
	for _, x := range []struct{ source, want string }{
		{"initial step a do while q; step b; from a to b when x; from b to a when y;", "initial step a do while q;\nstep b;\nfrom a to b when x;\nfrom b to a when y;\n"},
		// What stands before and after a step remains there, and so do actions and conditions.
		{"initial step a; step s macro m; step b; from a to s when x; from s to b when y; from b to a when z; macro m(i, o) step i do set q; step o do enter (x := 1;); from i to o when w; end;",
			"initial step a;\nstep s_i do set q;\nstep s_o do enter (x := 1;);\nstep b;\nfrom a to s_i when x;\nfrom s_o to b when y;\nfrom b to a when z;\nfrom s_i to s_o when w;\n"},
		// In and Out are not the first and the last steps, or are the same one; both are meant by a transition from a step to itself.
		{"initial step s macro m; from s to s when x; macro m(b, a) step a; step b; step c; from b, c to c, a when y; end;", "step s_a;\ninitial step s_b;\nstep s_c;\nfrom s_a to s_b when x;\nfrom s_b, s_c to s_c, s_a when y;\n"},
		{"initial step s macro m; initial step t macro n; from s, t to t, s when x; macro n(a, a) step a; end; macro m(b, b) step b; end;", "initial step s_b;\ninitial step t_a;\nfrom s_b, t_a to t_a, s_b when x;\n"},
		// A macro stands for the step that names it, wherever the macro stands; others are not there.
		{"initial step a; macro m(b, b) step b; from b to b when x; end;", "initial step a;\n"},
		{"initial step m; step n macro m; macro m(m, m) step m; from m to m when m; end; macro n(n, n) step n; end; from n to m when x;", "initial step m;\nstep n_m;\nfrom n_m to m when x;\nfrom n_m to n_m when m;\n"},
		// Macros in macros: first the transitions of the outer one, and then those of its steps.
		{"initial step a macro m; step b macro n; from a to b when x1; macro n(e, e) step e; from e to e when x2; end;" +
			"macro m(c, d) step c; step x macro o; step y macro p; step d; from c to x when x3; from x to y when x4; macro p(f, f) step f; from f to f when x5; end; macro o(g, h) step g; step h; from g to h when x6; end; end;",
			"initial step a_c;\nstep a_x_g;\nstep a_x_h;\nstep a_y_f;\nstep a_d;\nstep b_e;\nfrom a_d to b_e when x1;\nfrom a_c to a_x_g when x3;\nfrom a_x_h to a_y_f when x4;\nfrom a_x_g to a_x_h when x6;\nfrom a_y_f to a_y_f when x5;\nfrom b_e to b_e when x2;\n"},
		{"initial step a macro m; macro m(i, i) step i; step b macro m; macro m(i, i) step i; step c macro m; macro m(i, i) step i; step d macro m; macro m(i, i) step i; end; end; end; end;", "initial step a_i;\nstep a_b_i;\nstep a_b_c_i;\nstep a_b_c_d_i;\n"},
	} {
		c := read(t, x.source)
		f, err := chart.Flatten(c)
		text, wrong := chart.Text(f)
		if err != api.OK || wrong != api.OK || text != x.want || !chart.Same(c, read(t, x.source)) {
			t.Errorf("Flatten(%q) = %q, %d; want %q", x.source, text, err, x.want)
		}
		again, err := chart.Flatten(f)
		if err != api.OK || !reflect.DeepEqual(again, f) {
			t.Errorf("Flatten of Flatten(%q) = %v, %d; want %v", x.source, again, err, f)
		}
	}
}

// TestLongNames has names that are longer than those of a source.
func TestLongNames(t *testing.T) {
	c := read(t, "initial step twelve_bytes macro m; from twelve_bytes to twelve_bytes when x; macro m(another_name, another_name) step another_name; end;")
	f, err := chart.Flatten(c)
	want := api.Chart{Steps: of(initial("twelve_bytes_another_name")), Trans: of(api.Trans{From: of("twelve_bytes_another_name"), To: of("twelve_bytes_another_name"), When: expr(t, "x")})}
	if err != api.OK || !reflect.DeepEqual(f, want) {
		t.Errorf("Flatten = %v, %d", f, err)
	}
	expectForm(t, f, api.ErrArg)
}

// steps returns the source of steps, each with a number.
func steps(n int) string {
	var all strings.Builder
	for i := range n {
		all.WriteString(fmt.Sprint("step x", i, ";"))
	}
	return all.String()
}

func TestFlattenErrors(t *testing.T) {
	for _, x := range []struct {
		source string
		want   api.Errno
	}{
		{"initial step a;" + steps(29), api.OK}, {"initial step a;" + steps(30), api.ErrFull}, {"initial step a macro m; macro m(x0, x0)" + steps(30) + "end;", api.OK}, {"initial step a macro m; macro m(x0, x0)" + steps(31) + "end;", api.ErrFull},
		{"initial step a macro m; step b; macro m(x0, x0)" + steps(29) + "end;", api.OK}, {"initial step a macro m; step b; macro m(x0, x0)" + steps(30) + "end;", api.ErrFull}, {"initial step a; macro m(x0, x0)" + steps(400) + "end;", api.OK},
		{"initial step a macro m; step b macro n; macro m(x0, x0)" + steps(15) + "end; macro n(x0, x0)" + steps(15) + "end;", api.OK}, {"initial step a macro m; step b macro n; macro m(x0, x0)" + steps(15) + "end; macro n(x0, x0)" + steps(16) + "end;", api.ErrFull},
		{"initial step a macro m; macro m(b, b) step b; step c macro n; macro n(x0, x0)" + steps(29) + "end; end;", api.OK}, {"initial step a macro m; macro m(b, b) step b; step c macro n; macro n(x0, x0)" + steps(30) + "end; end;", api.ErrFull},
		{"initial step a macro m; step a_b; macro m(b, b) step b; end;", api.ErrFull}, {"initial step a_b; step a macro m; macro m(b, b) step b; end;", api.ErrFull}, {"initial step a macro m; step a_c; macro m(b, b) step b; end;", api.OK}, {"initial step a_b; step a; macro m(b, b) step b; end;", api.OK},
		{"initial step a macro m; macro m(d, d) step b_c; step d; step b macro n; macro n(c, c) step c; end; end;", api.ErrFull}, {"initial step a_b macro n; step a macro m; macro n(c, c) step c; end; macro m(b_c, b_c) step b_c; end;", api.ErrFull},
		{"initial step a; macro m(d, d) step b_c; step d; step b macro n; macro n(c, c) step c; end; end;", api.OK},
	} {
		c := read(t, x.source)
		f, e1 := chart.Flatten(c)
		next, e2 := chart.Next(c, of("?"), of(-1))
		reached, e3 := chart.Reached(c)
		alone, e4 := chart.Alone(c)
		want := x.want
		if want == api.OK {
			want = api.ErrArg
		}
		if e1 != x.want || e2 != want || e3 != x.want || e4 != x.want {
			t.Errorf("%.80q: %d, %d, %d, %d; want %d", x.source, e1, e2, e3, e4, x.want)
		}
		if x.want != api.OK && (!reflect.DeepEqual(f, api.Chart{}) || len(next) != 0 || len(reached) != 0 || alone) {
			t.Errorf("%.80q: %v, %v, %v, %v with an error", x.source, f, next, reached, alone)
		}
	}
}

// TestFlattenedMemory changes all of a chart after it was flattened, and all of the result after it was flattened again.
func TestFlattenedMemory(t *testing.T) {
	source := "initial step a macro m; step b do enter (f(a := 1); case x of 1: y[2] := 3; end_case;); from a, b to b when not x; macro m(c, c) step c do set q do while (if x then exit; end_if;); from c to c when x or y; end;"
	c := read(t, source)
	f, _ := chart.Flatten(c)
	want, _ := chart.Flatten(read(t, source))
	spoil(&c)
	if !reflect.DeepEqual(f, want) {
		t.Errorf("changed with the chart: %v", f)
	}
	c = read(t, strings.ReplaceAll(source, "a macro m; ", "a; "))
	f, _ = chart.Flatten(c)
	spoil(&f)
	if !reflect.DeepEqual(c, read(t, strings.ReplaceAll(source, "a macro m; ", "a; "))) {
		t.Errorf("changed with what was made of it: %v", c)
	}
}

// spoil changes all that a chart refers to.
func spoil(c *api.Chart) {
	for i := range c.Inner {
		spoil(&c.Inner[i])
		c.Inner[i] = api.Chart{}
	}
	for i := range c.Steps {
		for _, a := range c.Steps[i].Actions {
			for _, s := range a.Body {
				for j := range s.Arms {
					clear(s.Arms[j].Labels)
					clear(s.Arms[j].Body)
				}
				clear(s.Fields)
				clear(s.Args)
				clear(s.Body)
				clear(s.Arms)
			}
			clear(a.Body)
		}
		clear(c.Steps[i].Actions)
		c.Steps[i] = api.Step{}
	}
	for i, x := range c.Trans {
		clear(x.From)
		clear(x.To)
		clear(x.When.Args)
		c.Trans[i] = api.Trans{}
	}
}

// model flattens a chart step by step, as names that begin with those of the steps around them.
type model struct{ chart api.Chart }

// add adds the steps of a chart behind a prefix, and returns its transitions; active says whether its In is initial.
func (m *model) add(c api.Chart, prefix string, active bool) []api.Trans {
	macro := map[string]api.Chart{}
	for _, s := range c.Steps {
		for _, x := range c.Inner {
			if s.Macro == x.Name {
				macro[s.Name] = x
			}
		}
	}
	long := func(l []string, end func(api.Chart) string) []string {
		var all []string
		for _, name := range l {
			if x, is := macro[name]; is {
				name += "_" + end(x)
			}
			all = append(all, prefix+name)
		}
		return all
	}
	var own, inner []api.Trans
	for _, x := range c.Trans {
		own = append(own, api.Trans{From: long(x.From, func(x api.Chart) string { return x.Out }), To: long(x.To, func(x api.Chart) string { return x.In }), When: x.When})
	}
	for _, s := range c.Steps {
		isInitial := s.Initial || active && s.Name == c.In
		if x, is := macro[s.Name]; is {
			inner = append(inner, m.add(x, prefix+s.Name+"_", isInitial)...)
			continue
		}
		m.chart.Steps = append(m.chart.Steps, api.Step{Name: prefix + s.Name, Initial: isInitial, Actions: s.Actions})
	}
	return append(own, inner...)
}

func TestRandomFlatten(t *testing.T) {
	r := rand.New(rand.NewSource(6))
	good, again := 0, 0
	for range 4000 {
		c := randomChart(r, 0)
		if chart.Check(c) != api.OK {
			continue
		}
		var m model
		m.chart.Trans = m.add(c, "", false)
		names := map[string]bool{}
		for _, s := range m.chart.Steps {
			names[s.Name] = true
		}
		fits := len(m.chart.Steps) <= api.MaxSteps && len(names) == len(m.chart.Steps)
		f, err := chart.Flatten(c)
		if fits != (err == api.OK) || fits && !chart.Same(f, m.chart) || !fits && err != api.ErrFull {
			t.Fatalf("Flatten(%v) = %v, %d; want %v", c, f, err, m.chart)
		}
		if !fits {
			continue
		}
		good++
		if chart.Check(f) != api.OK {
			continue
		}
		again++
		if g, err := chart.Flatten(f); err != api.OK || !chart.Same(g, f) {
			t.Fatalf("Flatten of Flatten(%v) = %v, %d", c, g, err)
		}
	}
	if good < 1000 || again < 500 {
		t.Errorf("%d good charts, %d flattened again", good, again)
	}
}
