package lexis

import (
	"math"
	"strconv"
	"strings"

	"winch/api"
)

// words has the words in ascending order, each between two blanks, so that one search finds a whole word.
const words = " add and andn at block bool box by cal calc calcn case delay div do else elsif end end_case end_for" +
	" end_if end_repeat end_while enter eq every exit fall false fbd for from function ge gt if il initial input int" +
	" jmp jmpc jmpcn jump ld ldn le leave limit_ local lt macro mod mul ne not of or orn output phase priority program" +
	" repeat reset ret retain retc retcn return rise run rung set sfc st step stn sub task then time to transition" +
	" true until when while xor xorn "

const (
	maxNumeral = math.MaxInt32
	maxSlot    = api.MaxSlots - 1
)

// Words returns the words in ascending order.
func Words() []string {
	return strings.Fields(words)
}

// IsWord reports whether s is a word.
func IsWord(s string) bool {
	return isRun(s) && strings.Contains(words, " "+s+" ")
}

// IsName reports whether s is a name.
func IsName(s string) bool {
	return len(s) <= api.MaxName && isRun(s) && !IsWord(s)
}

// IsAddress reports whether s is an address.
func IsAddress(s string) bool {
	if len(s) < 2 || s[0] != '%' {
		return false
	}
	area := s[1]
	return (area == 'i' || area == 'q' || area == 'm') && isNumeral(s[2:], maxSlot)
}

// isRun reports whether the whole of s is a run.
func isRun(s string) bool {
	return s != "" && isLetter(s[0]) && span(s, isRunByte) == len(s)
}

// isNumeral reports whether s is a numeral of a number of at most limit.
func isNumeral(s string, limit uint64) bool {
	if len(s) > 1 && s[0] == '0' {
		return false
	}
	n, err := strconv.ParseUint(s, 10, 64)
	return err == nil && n <= limit
}

// span returns how many bytes at the beginning of s are of a class.
func span(s string, class func(byte) bool) int {
	for i := range len(s) {
		if !class(s[i]) {
			return i
		}
	}
	return len(s)
}

func isLetter(c byte) bool { return c >= 'a' && c <= 'z' }

func isDigit(c byte) bool { return c >= '0' && c <= '9' }

func isAddressByte(c byte) bool { return isLetter(c) || isDigit(c) }

func isRunByte(c byte) bool { return isAddressByte(c) || c == '_' }

func isBlank(c byte) bool { return c == '\t' || c == '\n' || c == '\r' || c == ' ' }
