package check

import "winch/api"

func (b *body) text() {
	b.statements(b.Text)
}

func (b *body) statements(l []api.Stmt) {
	for _, x := range l {
		b.statement(x)
	}
}

func (b *body) statement(x api.Stmt) {
	switch x.Op {
	case api.SSet:
		b.set(x)
	case api.SCall:
		b.call(x.Name, x.Fields, func(at int) int { return b.kind(x.Args[at]) })
	case api.SIf:
		b.want(api.KBool, x.Args...)
		b.inner(x)
	case api.SCase:
		b.want(api.KInt, x.Args...)
		b.inner(x)
	case api.SFor:
		b.assign(x.Name, api.KInt)
		b.want(api.KInt, x.Args...)
		b.loop(x)
	case api.SWhile, api.SRepeat:
		b.want(api.KBool, x.Args...)
		b.loop(x)
	case api.SExit:
		failIf(b.loops == 0, api.ErrPlace)
	case api.SReturn:
		failIf(b.isAction, api.ErrPlace)
	}
}

func (b *body) set(x api.Stmt) {
	v := b.target(x.Name)
	failIf((len(x.Index) > 0) != (v.Type.N > 0), api.ErrKind)
	b.want(api.KInt, x.Index...)
	b.want(v.Type.Kind, x.Args...)
}

// inner checks the statements in a statement. An arm has a condition, or labels, before its statements.
func (b *body) inner(x api.Stmt) {
	b.statements(x.Body)
	there := map[int]bool{}
	for _, a := range x.Arms {
		b.want(api.KBool, a.If...)
		for _, label := range a.Labels {
			failIf(there[label], api.ErrTwice)
			there[label] = true
		}
		b.statements(a.Body)
	}
	b.statements(x.Other)
}

func (b *body) loop(x api.Stmt) {
	b.loops++
	b.inner(x)
	b.loops--
}
