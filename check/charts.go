package check

import (
	"winch/api"
	"winch/chart"
)

// chart checks the flattened chart. (That there is one, has been found before.)
func (b *body) chart() {
	flat, _ := chart.Flatten(b.Chart)
	for _, s := range flat.Steps {
		for _, a := range s.Actions {
			b.action(a)
		}
	}
	for _, t := range flat.Trans {
		b.want(api.KBool, t.When)
	}
}

// action checks an action, which has a variable, or statements.
func (b *body) action(a api.Action) {
	if a.Name != "" {
		b.assign(a.Name, api.KBool)
	}
	inAction := body{scope: b.scope, isAction: true}
	inAction.statements(a.Body)
}
