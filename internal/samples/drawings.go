package samples

import (
	"strconv"
	"strings"
)

func (s *scope) ladder() string {
	var all []string
	var waiting []string
	for i := range s.Choose(s.Size + 1) {
		head := "rung"
		if len(waiting) > 0 && s.isOnce(2) {
			head += " " + waiting[0]
			waiting = waiting[1:]
		}
		coils := s.coils()
		switch {
		case coils == "":
			return ""
		case s.isOnce(5):
			label := "r" + strconv.Itoa(i)
			waiting = append(waiting, label)
			coils += ", jump " + label
		case s.isOnce(10):
			coils += ", return"
		}
		all = append(all, head+": "+s.power(s.Depth)+" -> "+coils+";")
	}
	for _, label := range waiting {
		all = append(all, "rung "+label+": "+s.power(1)+" -> "+s.coils()+";")
	}
	return strings.Join(all, " ")
}

// marks returns the marks that contacts or coils can have; a function has no edges.
func (s *scope) marks(words string) string {
	if s.head == "function" {
		words = strings.NewReplacer("+", "", "-", "").Replace(words)
	}
	return strings.ReplaceAll(strings.ReplaceAll(s.one(words), "_", " "), ".", "")
}

func (s *scope) coils() string {
	targets := s.targets("bool")
	if len(targets) == 0 {
		return ""
	}
	var l []string
	for range 1 + s.Choose(3) {
		l = append(l, s.marks(". . . / set_ reset_ + -")+targets[s.Choose(len(targets))])
	}
	return strings.Join(l, ", ")
}

func (s *scope) power(depth int) string {
	if depth > 0 && s.Choose(3) > 0 {
		var l []string
		for range 2 + s.Choose(2) {
			l = append(l, s.power(depth-1))
		}
		return "(" + strings.Join(l, s.one("& |")) + ")"
	}
	if s.isOnce(5) {
		if box := s.box(); box != "" {
			return box
		}
	}
	var l []string
	for _, v := range s.variables {
		if v.kind == "bool" && v.isCell() {
			l = append(l, v.name)
		}
	}
	switch {
	case s.isOnce(10):
		return "true"
	case s.isOnce(5) || len(l) == 0:
		return "[" + s.expression("bool", 2) + "]"
	}
	return s.marks(". . . / / + -") + l[s.Choose(len(l))]
}

// box returns a box; nothing, if there is no block with such inputs and outputs.
func (s *scope) box() string {
	v, is := s.block()
	if !is {
		return ""
	}
	first, out := "", ""
	var rest []string
	for _, x := range v.block.inputs() {
		if first == "" && x.kind == "bool" {
			first = x.name
		} else if s.isOnce(2) {
			rest = append(rest, ", "+x.name+" := "+s.expression(x.kind, 1))
		}
	}
	for _, x := range v.block.variables {
		if x.class == "output" && x.kind == "bool" && x.isCell() {
			out = x.name
		}
	}
	if first == "" || out == "" {
		return ""
	}
	return "box " + v.name + "(" + first + strings.Join(rest, "") + ")." + out
}

// nodes is a diagram that is being made: numbers has those of the nodes of each kind.
type nodes struct {
	*scope
	all     []string
	numbers map[string][]string
}

func (s *scope) diagram() string {
	n := &nodes{scope: s, numbers: map[string][]string{}}
	for range s.Choose(s.Size + 1) {
		n.next()
	}
	var all []string
	for len(n.all) > 0 {
		at := 0
		if s.isOnce(3) {
			at = s.Choose(len(n.all))
		}
		all = append(all, n.all[at])
		n.all = append(n.all[:at], n.all[at+1:]...)
	}
	return strings.Join(all, " ")
}

// pin returns a pin of a kind: most often a node that is there.
func (n *nodes) pin(kind string) string {
	mark := ""
	if kind == "bool" && n.isOnce(3) {
		mark = "/"
	}
	if l := n.numbers[kind]; len(l) > 0 && n.Choose(3) > 0 {
		return mark + ":" + l[n.Choose(len(l))]
	}
	return mark + n.expression(kind, 2)
}

func (n *nodes) next() {
	kind := n.scope.kind()
	number := strconv.Itoa(len(n.all) + 1)
	if n.isOnce(6) {
		number = noNumber
	}
	switch x := n.Choose(10); {
	case x < 4:
		if l := n.targets(kind); len(l) > 0 {
			n.all = append(n.all, l[n.Choose(len(l))]+" := "+n.pin(kind)+";")
		}
		return
	case x < 7:
		n.block(number)
		return
	}
	op := n.one(map[string]string{"bool": "and or xor eq ne", "int": "add sub mul div mod gt le", "time": "add sub lt ge eq"}[kind])
	text := op + "(" + n.pin(kind) + ", " + n.pin(kind) + ")"
	if kind == "bool" && n.isOnce(5) {
		text = "not(" + n.pin(kind) + ")"
	}
	if strings.Contains("eq ne gt le lt ge", op) {
		kind = "bool"
	}
	n.add(number, text, kind)
}

// noNumber is the number of nodes from which nothing can take.
const noNumber = "0"

// add adds a node with a result of a kind.
func (n *nodes) add(number, text, kind string) {
	n.all = append(n.all, number+": "+text+";")
	if number != noNumber {
		n.numbers[kind] = append(n.numbers[kind], number)
	}
}

// block adds a node of a block, if there is one with an output.
func (n *nodes) block(number string) {
	v, is := n.scope.block()
	if !is {
		return
	}
	var l []string
	for _, x := range v.block.inputs() {
		if n.Choose(3) > 0 {
			l = append(l, x.name+" := "+n.pin(x.kind))
		}
	}
	for _, x := range v.block.variables {
		if x.class == "output" && x.isCell() {
			n.add(number, v.name+"("+strings.Join(l, ", ")+")."+x.name, x.kind)
			return
		}
	}
}
