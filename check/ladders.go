package check

import "winch/api"

func (b *body) ladder() {
	for _, x := range b.Rungs {
		b.element(x.Power)
		for _, c := range x.Coils {
			if c.Mark != api.MJump && c.Mark != api.MReturn {
				b.assign(c.Name, api.KBool)
			}
		}
	}
}

func (b *body) element(p api.Power) {
	switch p.Op {
	case api.PContact:
		mustBe(b.read(p.Name), api.KBool)
	case api.PCompare:
		b.want(api.KBool, p.Arg...)
	case api.PBox:
		b.box(p)
	}
	for _, part := range p.Parts {
		b.element(part)
	}
}

// box checks a box, whose first input takes the power.
func (b *body) box(p api.Power) {
	b.call(p.Name, p.Fields, func(at int) int {
		if at == 0 {
			return api.KBool
		}
		return b.kind(p.Args[at-1])
	})
	mustBe(b.output(p.Name, p.Out), api.KBool)
}
