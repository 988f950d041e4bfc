package types

import "winch/api"

// standard returns the lists of the variables of the standard blocks. (They are made when they are asked for, as making all of them
// takes much longer.)
func standard() map[string]func() []api.Var {
	return map[string]func() []api.Var{
		"ton": timer, "tof": timer, "tp": timer,
		"ctu": ctu, "ctd": ctd,
		"sr": sr, "rs": rs,
		"rtrig": edge, "ftrig": edge,
	}
}

func ctu() []api.Var {
	return []api.Var{input("cu", api.KBool), input("r", api.KBool), input("pv", api.KInt), output("q", api.KBool), output("cv", api.KInt), local("was", api.KBool)}
}

func ctd() []api.Var {
	return []api.Var{input("cd", api.KBool), input("load", api.KBool), input("pv", api.KInt), output("q", api.KBool), output("cv", api.KInt), local("was", api.KBool)}
}

func sr() []api.Var {
	return []api.Var{input("s1", api.KBool), input("r", api.KBool), output("q1", api.KBool)}
}

func rs() []api.Var {
	return []api.Var{input("s", api.KBool), input("r1", api.KBool), output("q1", api.KBool)}
}

func timer() []api.Var {
	return []api.Var{input("in", api.KBool), input("pt", api.KTime), output("q", api.KBool), output("et", api.KTime), local("since", api.KTime), local("runs", api.KBool)}
}

func edge() []api.Var {
	return []api.Var{input("clk", api.KBool), output("q", api.KBool), local("was", api.KBool)}
}

func input(name string, kind int) api.Var {
	return variable(name, api.VInput, kind)
}

func output(name string, kind int) api.Var {
	return variable(name, api.VOutput, kind)
}

func local(name string, kind int) api.Var {
	return variable(name, api.VLocal, kind)
}

func variable(name string, class, kind int) api.Var {
	return api.Var{Name: name, Class: class, Type: api.Type{Kind: kind}}
}
