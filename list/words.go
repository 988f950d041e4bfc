package list

import "winch/api"

// head is what the word that a line begins with says of it.
type head struct {
	op, e int
	neg   bool
	cond  int
}

func headOf(x api.Line) head {
	return head{op: x.Op, e: x.E, neg: x.Neg, cond: x.Cond}
}

// heads returns what each word says.
func heads() map[string]head {
	return map[string]head{
		"ld":    {op: api.LLoad},
		"ldn":   {op: api.LLoad, neg: true},
		"st":    {op: api.LStore},
		"stn":   {op: api.LStore, neg: true},
		"set":   {op: api.LSet},
		"reset": {op: api.LReset},
		"not":   {op: api.LNot},
		")":     {op: api.LClose},
		"and":   {op: api.LOp, e: api.EAnd},
		"andn":  {op: api.LOp, e: api.EAnd, neg: true},
		"or":    {op: api.LOp, e: api.EOr},
		"orn":   {op: api.LOp, e: api.EOr, neg: true},
		"xor":   {op: api.LOp, e: api.EXor},
		"xorn":  {op: api.LOp, e: api.EXor, neg: true},
		"add":   {op: api.LOp, e: api.EAdd},
		"sub":   {op: api.LOp, e: api.ESub},
		"mul":   {op: api.LOp, e: api.EMul},
		"div":   {op: api.LOp, e: api.EDiv},
		"mod":   {op: api.LOp, e: api.EMod},
		"gt":    {op: api.LOp, e: api.EGt},
		"ge":    {op: api.LOp, e: api.EGe},
		"eq":    {op: api.LOp, e: api.EEq},
		"ne":    {op: api.LOp, e: api.ENe},
		"le":    {op: api.LOp, e: api.ELe},
		"lt":    {op: api.LOp, e: api.ELt},
		"jmp":   {op: api.LJump},
		"jmpc":  {op: api.LJump, cond: 1},
		"jmpcn": {op: api.LJump, cond: 2},
		"cal":   {op: api.LCall},
		"calc":  {op: api.LCall, cond: 1},
		"calcn": {op: api.LCall, cond: 2},
		"ret":   {op: api.LRet},
		"retc":  {op: api.LRet, cond: 1},
		"retcn": {op: api.LRet, cond: 2},
	}
}

// words returns the word of each head.
func words() map[head]string {
	all := map[head]string{}
	for word, h := range heads() {
		all[h] = word
	}
	return all
}
