package deep

import (
	"slices"

	"winch/api"
)

// naming copies bodies, and gives the variable from the name to. The zero naming lets all names be: where there is none, none is
// what it gives.
type naming struct{ from, to string }

func (n naming) variable(name string) string {
	if name == n.from {
		return n.to
	}
	return name
}

func (n naming) exprs(l []api.Expr) []api.Expr {
	return List(l, n.expr)
}

// expr copies an expression. The name of a call is that of a function.
func (n naming) expr(e api.Expr) api.Expr {
	if e.Op != api.ECall {
		e.S = n.variable(e.S)
	}
	e.Args = n.exprs(e.Args)
	return e
}

func (n naming) stmts(l []api.Stmt) []api.Stmt {
	return List(l, n.stmt)
}

func (n naming) stmt(s api.Stmt) api.Stmt {
	s.Name = n.variable(s.Name)
	s.Index, s.Args = n.exprs(s.Index), n.exprs(s.Args)
	s.Fields = slices.Clone(s.Fields)
	s.Body, s.Other = n.stmts(s.Body), n.stmts(s.Other)
	s.Arms = List(s.Arms, n.arm)
	return s
}

func (n naming) arm(a api.Arm) api.Arm {
	a.If = n.exprs(a.If)
	a.Labels = slices.Clone(a.Labels)
	a.Body = n.stmts(a.Body)
	return a
}

// line copies a line. The name of a jump is a label.
func (n naming) line(x api.Line) api.Line {
	if x.Op != api.LJump {
		x.Name = n.variable(x.Name)
	}
	x.Arg = n.exprs(x.Arg)
	x.Fields = slices.Clone(x.Fields)
	return x
}

func (n naming) rung(x api.Rung) api.Rung {
	x.Power = n.power(x.Power)
	x.Coils = List(x.Coils, n.coil)
	return x
}

func (n naming) power(p api.Power) api.Power {
	p.Name = n.variable(p.Name)
	p.Arg, p.Args = n.exprs(p.Arg), n.exprs(p.Args)
	p.Fields = slices.Clone(p.Fields)
	p.Parts = List(p.Parts, n.power)
	return p
}

// coil copies a coil. The name of a jump is a label.
func (n naming) coil(c api.Coil) api.Coil {
	if c.Mark != api.MJump {
		c.Name = n.variable(c.Name)
	}
	return c
}

// node copies a node. The names of its pins are those of inputs.
func (n naming) node(x api.Node) api.Node {
	x.Name = n.variable(x.Name)
	x.Pins = List(x.Pins, n.pin)
	return x
}

func (n naming) pin(p api.Pin) api.Pin {
	p.Arg = n.exprs(p.Arg)
	return p
}

func (n naming) chart(c api.Chart) api.Chart {
	c.Steps = List(c.Steps, n.step)
	c.Trans = List(c.Trans, n.trans)
	c.Inner = List(c.Inner, n.chart)
	return c
}

func (n naming) step(s api.Step) api.Step {
	s.Actions = List(s.Actions, n.action)
	return s
}

func (n naming) action(a api.Action) api.Action {
	a.Name = n.variable(a.Name)
	a.Body = n.stmts(a.Body)
	return a
}

// trans copies a transition, whose names are those of steps.
func (n naming) trans(t api.Trans) api.Trans {
	t.From, t.To = slices.Clone(t.From), slices.Clone(t.To)
	t.When = n.expr(t.When)
	return t
}

func (n naming) body(b api.Body) api.Body {
	b.Text = n.stmts(b.Text)
	b.List = List(b.List, n.line)
	b.Rungs = List(b.Rungs, n.rung)
	b.Nodes = List(b.Nodes, n.node)
	b.Chart = n.chart(b.Chart)
	return b
}
