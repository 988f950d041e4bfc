package samples

import (
	"slices"
	"strconv"
	"strings"

	"winch/api"
)

// Assembled returns the code with a text that is written with ";" for line feeds, and without zeros at the ends of lines.
func Assembled(text string) api.Code {
	names := []string{"const", "load", "store", "loadx", "storex", "unary", "binary", "call", "std", "part", "unit", "jump", "false", "return", "pick", "put", "drop", "now"}
	var c api.Code
	for _, line := range strings.Split(text, ";") {
		words := strings.Fields(line)
		if len(words) == 0 {
			continue
		}
		numbers := make([]int, 4)
		for i, word := range words[1:] {
			numbers[i], _ = strconv.Atoi(word)
		}
		if words[0] == "unit" && len(words) > 3 {
			c.Units = append(c.Units, api.UnitCode{Name: words[1], Kind: numbers[1], Cells: numbers[2], Args: numbers[3]})
			continue
		}
		u := &c.Units[len(c.Units)-1]
		u.Code = append(u.Code, api.Instr{Op: 1 + slices.Index(names, words[0]), A: numbers[0], B: numbers[1]})
	}
	return c
}
