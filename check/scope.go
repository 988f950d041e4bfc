package check

import (
	"slices"

	"winch/api"
	"winch/types"
)

// scope is what names stand for in a unit. It keeps which variables are set and read by what is checked in it.
type scope struct {
	survey      *survey
	variables   map[string]api.Var
	sets, reads map[string]bool
}

// newScope returns the scope of a unit. In a function its own name is a variable, too.
func newScope(s *survey, unit int) *scope {
	u := s.p.Units[unit]
	all := map[string]api.Var{}
	for _, v := range u.Vars {
		all[v.Name] = v
	}
	if u.Kind == api.UFunction {
		all[u.Name] = api.Var{Name: u.Name, Class: api.VLocal, Type: api.Type{Kind: u.Result}}
	}
	return &scope{survey: s, variables: all, sets: map[string]bool{}, reads: map[string]bool{}}
}

// variable returns the variable with a name.
func (s *scope) variable(name string) api.Var {
	v, known := s.variables[name]
	failIf(!known, api.ErrName)
	return v
}

// read returns the variable with a name, which is read.
func (s *scope) read(name string) api.Var {
	s.reads[name] = true
	return s.variable(name)
}

// target returns the variable with a name, which is set.
func (s *scope) target(name string) api.Var {
	s.sets[name] = true
	v := s.variable(name)
	failIf(v.Class == api.VInput, api.ErrPlace)
	failIf(v.Type.Kind == api.KBlock, api.ErrKind)
	return v
}

// assign checks that a variable can be set to a value of a kind.
func (s *scope) assign(name string, kind int) {
	mustBe(s.target(name), kind)
}

// mustBe checks that a variable is one cell of a kind.
func mustBe(v api.Var, kind int) {
	failIf(!isOneCell(v) || v.Type.Kind != kind, api.ErrKind)
}

// block returns the variables of the block that a variable is.
func (s *scope) block(name string) []api.Var {
	t := s.variable(name).Type
	failIf(t.Kind != api.KBlock, api.ErrKind)
	if l, is := types.Standard(t.Block); is {
		return l
	}
	return s.survey.p.Units[s.survey.named[t.Block]].Vars
}

// call checks the call of a block variable, which sets some inputs: each one of them to something of the kind that value returns
// for its position.
func (s *scope) call(name string, inputs []string, value func(at int) int) {
	block := s.block(name)
	s.sets[name] = true
	there := map[string]bool{}
	for i, input := range inputs {
		v := member(block, api.VInput, input)
		failIf(!isOneCell(v), api.ErrKind)
		failIf(there[input], api.ErrTwice)
		there[input] = true
		failIf(value(i) != v.Type.Kind, api.ErrKind)
	}
}

// output returns the output of the block that a variable is, which is read.
func (s *scope) output(name, output string) api.Var {
	s.reads[name] = true
	return member(s.block(name), api.VOutput, output)
}

// outputOfOneCell returns the kind of the output of the block that a variable is, which is read; there must be one of one cell.
func (s *scope) outputOfOneCell(name, output string) int {
	v := s.output(name, output)
	failIf(!isOneCell(v), api.ErrName)
	return v.Type.Kind
}

// member returns the variable of a block that has a class and a name.
func member(block []api.Var, class int, name string) api.Var {
	at := slices.IndexFunc(block, func(v api.Var) bool { return v.Class == class && v.Name == name })
	failIf(at < 0, api.ErrName)
	return block[at]
}
