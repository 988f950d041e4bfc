package chart

import (
	"winch/api"
	"winch/deep"
)

// flatten returns a well formed chart, whose memory it takes, with the steps and transitions of macros in the place of steps.
func flatten(c api.Chart) api.Chart {
	var flat func(c api.Chart) api.Chart
	flat = func(c api.Chart) api.Chart {
		macros := map[string]api.Chart{}
		for _, m := range c.Inner {
			macros[m.Name] = m
		}
		result := api.Chart{In: c.In, Out: c.Out}
		var inner []api.Trans
		in, out := map[string]string{}, map[string]string{}
		for _, s := range c.Steps {
			in[s.Name], out[s.Name] = s.Name, s.Name
			if s.Macro == "" {
				result.Steps = append(result.Steps, s)
				continue
			}
			m := inPlace(flat(macros[s.Macro]), s)
			in[s.Name], out[s.Name] = m.In, m.Out
			result.Steps = append(result.Steps, m.Steps...)
			inner = append(inner, m.Trans...)
		}
		for _, t := range c.Trans {
			result.Trans = append(result.Trans, wired(t, out, in))
		}
		result.Trans = append(result.Trans, inner...)
		return result
	}
	return flat(c)
}

// inPlace returns a flattened macro, which stands in the place of a step, with the names that it has there.
func inPlace(m api.Chart, place api.Step) api.Chart {
	names := map[string]string{}
	var steps []api.Step
	for _, s := range m.Steps {
		names[s.Name] = place.Name + "_" + s.Name
		s.Initial = place.Initial && s.Name == m.In
		s.Name = names[s.Name]
		steps = append(steps, s)
	}
	rewired := func(t api.Trans) api.Trans { return wired(t, names, names) }
	return api.Chart{In: names[m.In], Out: names[m.Out], Steps: steps, Trans: deep.List(m.Trans, rewired)}
}

// wired returns a transition from and to steps that have other names.
func wired(t api.Trans, from, to map[string]string) api.Trans {
	t.From = deep.List(t.From, func(name string) string { return from[name] })
	t.To = deep.List(t.To, func(name string) string { return to[name] })
	return t
}
