package types

import "winch/api"

// standard returns the variables of the standard blocks.
func standard() map[string][]api.Var {
	return map[string][]api.Var{
		"ton":   timer(),
		"tof":   timer(),
		"tp":    timer(),
		"ctu":   {input("cu", api.KBool), input("r", api.KBool), input("pv", api.KInt), output("q", api.KBool), output("cv", api.KInt), local("was", api.KBool)},
		"ctd":   {input("cd", api.KBool), input("load", api.KBool), input("pv", api.KInt), output("q", api.KBool), output("cv", api.KInt), local("was", api.KBool)},
		"sr":    {input("s1", api.KBool), input("r", api.KBool), output("q1", api.KBool)},
		"rs":    {input("s", api.KBool), input("r1", api.KBool), output("q1", api.KBool)},
		"rtrig": edge(),
		"ftrig": edge(),
	}
}

func timer() []api.Var {
	return []api.Var{input("in", api.KBool), input("pt", api.KTime), output("q", api.KBool), output("et", api.KTime), local("since", api.KTime), local("runs", api.KBool)}
}

func edge() []api.Var {
	return []api.Var{input("clk", api.KBool), output("q", api.KBool), local("was", api.KBool)}
}

func input(name string, kind int) api.Var {
	return variable(name, api.VInput, kind)
}

func output(name string, kind int) api.Var {
	return variable(name, api.VOutput, kind)
}

func local(name string, kind int) api.Var {
	return variable(name, api.VLocal, kind)
}

func variable(name string, class, kind int) api.Var {
	return api.Var{Name: name, Class: class, Type: api.Type{Kind: kind}}
}
