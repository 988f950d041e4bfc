package project

import (
	"winch/api"
	"winch/chart"
	"winch/diagram"
	"winch/ladder"
	"winch/list"
	"winch/reading"
	"winch/syntax"
)

// reader reads the tokens of a source; sections has what reads the variables after the word of a section.
type reader struct {
	*reading.Reader
	sections map[string]func() []api.Var
}

func newReader(tokens *reading.Reader) *reader {
	r := &reader{Reader: tokens}
	r.sections = map[string]func() []api.Var{
		"input":  r.inputs,
		"output": r.outputs,
		"local":  r.locals,
		"retain": r.retained,
	}
	return r
}

// project reads units and tasks as long as there are some.
func (r *reader) project() api.Project {
	var p api.Project
	for {
		switch {
		case r.Is("program"), r.Is("block"), r.Is("function"):
			p.Units = append(p.Units, r.unit())
		case r.Accept("task"):
			p.Tasks = append(p.Tasks, r.task())
		default:
			return p
		}
	}
}

func (r *reader) unit() api.Unit {
	u := r.head()
	for {
		section := r.sections[r.Token().Text]
		if section == nil {
			break
		}
		r.Next()
		u.Vars = append(u.Vars, section()...)
	}
	u.Body = r.body()
	r.Expect("end")
	return u
}

// head reads the word and the name of a unit, and the kind of the result of a function.
func (r *reader) head() api.Unit {
	switch {
	case r.Accept("program"):
		return api.Unit{Kind: api.UProgram, Name: r.Name()}
	case r.Accept("block"):
		return api.Unit{Kind: api.UBlock, Name: r.Name()}
	}
	r.Expect("function")
	u := api.Unit{Kind: api.UFunction, Name: r.Name()}
	r.Expect(":")
	u.Result = r.kind()
	return u
}

func (r *reader) kind() int {
	switch {
	case r.Accept("bool"):
		return api.KBool
	case r.Accept("int"):
		return api.KInt
	}
	r.Expect("time")
	return api.KTime
}

func (r *reader) inputs() []api.Var {
	return r.variables(api.VInput)
}

func (r *reader) outputs() []api.Var {
	return r.variables(api.VOutput)
}

func (r *reader) locals() []api.Var {
	return r.variables(api.VLocal)
}

func (r *reader) retained() []api.Var {
	return r.variables(api.VRetain)
}

// variables reads the variables of a section, which is the one of a class.
func (r *reader) variables(class int) []api.Var {
	var l []api.Var
	for r.Token().Kind == api.TName {
		l = append(l, r.variable(class))
	}
	return l
}

func (r *reader) variable(class int) api.Var {
	v := api.Var{Name: r.Name(), Class: class}
	v.Type = r.typeOfVariable()
	if r.Accept(":=") {
		v.Init = reading.Sequence(r.Reader, r.value)
	}
	if r.Accept("at") {
		v.At = r.Address()
	}
	r.Expect(";")
	return v
}

// typeOfVariable reads a type. An array of no elements looks like what is no array.
func (r *reader) typeOfVariable() api.Type {
	if r.Token().Kind == api.TName {
		return api.Type{Kind: api.KBlock, Block: r.Name()}
	}
	t := api.Type{Kind: r.kind()}
	if r.Accept("[") {
		t.N = r.Number()
		r.Expect("]")
		if t.N == 0 {
			r.Full()
		}
	}
	return t
}

// value reads a value that a variable has at first, of whatever kind it is.
func (r *reader) value() int {
	switch {
	case r.Accept("true"):
		return 1
	case r.Accept("false"):
		return 0
	case r.Accept("-"):
		return -r.Number()
	case r.Token().Kind == api.TTime:
		return r.Time()
	}
	return r.Number()
}

func (r *reader) body() api.Body {
	switch {
	case r.Accept("st"):
		return api.Body{Lang: api.InText, Text: layer(r, syntax.Text)}
	case r.Accept("il"):
		return api.Body{Lang: api.InList, List: layer(r, list.Read)}
	case r.Accept("ld"):
		return api.Body{Lang: api.InLadder, Rungs: layer(r, ladder.Read)}
	case r.Accept("fbd"):
		return api.Body{Lang: api.InDiagram, Nodes: layer(r, diagram.Read)}
	}
	r.Expect("sfc")
	return api.Body{Lang: api.InChart, Chart: layer(r, chart.Read)}
}

// layer reads what the layer of a language reads.
func layer[T any](r *reader, read func(string) (T, int, api.Errno)) T {
	return reading.Part(r.Reader, r.Length(), read)
}

// task reads a task after its word.
func (r *reader) task() api.Task {
	t := api.Task{Name: r.Name()}
	r.Expect("every")
	t.Every = r.Time()
	if r.Accept("phase") {
		t.Phase = r.Time()
	}
	r.Expect("priority")
	t.Priority = r.Number()
	r.Expect("run")
	t.Programs = reading.Sequence(r.Reader, r.Name)
	r.Expect(";")
	return t
}
