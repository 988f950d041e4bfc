package types

import "winch/api"

// cells returns the cells of a unit that has a plan.
func cells(u api.Unit, pl plan) []api.Cell {
	var l []api.Cell
	for _, x := range pl.places {
		c := api.Cell{Name: x.name, Kind: x.kind, Class: api.VLocal, Var: x.variable}
		if x.variable != noVariable {
			v := u.Vars[x.variable]
			c.Class = v.Class
			c.At = addressOf(v)
		}
		l = append(l, c)
	}
	return l
}

// addressOf returns the address of a variable, as its only cell has it.
func addressOf(v api.Var) string {
	if v.Type.Kind == api.KBlock || v.Type.N > 0 {
		return ""
	}
	return v.At
}
