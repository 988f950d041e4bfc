package check

import (
	"winch/api"
	"winch/eval"
	"winch/kinds"
)

// kind returns the kind of an expression.
func (s *scope) kind(e api.Expr) int {
	switch e.Op {
	case api.EConst:
		return e.Kind
	case api.EName:
		v := s.read(e.S)
		failIf(!isOneCell(v), api.ErrKind)
		return v.Type.Kind
	case api.EIndex:
		v := s.read(e.S)
		failIf(v.Type.N == 0, api.ErrKind)
		s.want(api.KInt, e.Args...)
		return v.Type.Kind
	case api.EField:
		return s.outputOfOneCell(e.S, e.Field)
	case api.ECall:
		return s.called(e)
	}
	var operands []int
	for _, x := range e.Args {
		operands = append(operands, s.kind(x))
	}
	return operation(e.Op, operands...)
}

// want checks that expressions are of a kind, one after the other.
func (s *scope) want(kind int, l ...api.Expr) {
	for _, e := range l {
		failIf(s.kind(e) != kind, api.ErrKind)
	}
}

// called returns the kind of the result of a function that is called.
func (s *scope) called(e api.Expr) int {
	inputs, result := s.function(e.S)
	failIf(len(e.Args) != len(inputs), api.ErrCount)
	for i, x := range e.Args {
		s.want(inputs[i], x)
	}
	return result
}

// function returns the kinds of the inputs of a function, and that of its result.
func (s *scope) function(name string) ([]int, int) {
	inputs, result, err := eval.Kinds(name)
	if err == api.OK {
		return inputs, result
	}
	at, known := s.survey.named[name]
	failIf(!known, api.ErrName)
	u := s.survey.p.Units[at]
	failIf(u.Kind != api.UFunction, api.ErrKind)
	for _, v := range u.Vars {
		if v.Class == api.VInput {
			inputs = append(inputs, v.Type.Kind)
		}
	}
	return inputs, u.Result
}

// operation returns the kind of the result of an operator.
func operation(op int, operands ...int) int {
	kind, wanted := kinds.Result(op, operands...)
	failIf(!wanted, api.ErrKind)
	return kind
}
