package lexis_test

import (
	"math"
	"math/rand"
	"regexp"
	"slices"
	"strconv"
	"strings"
	"testing"

	"winch/api"
	"winch/lexis"
)

func TestTokensOfEachKind(t *testing.T) {
	for _, x := range []struct {
		source string
		want   []api.Token
	}{
		{"", nil},
		{" \t\r\n", nil},
		{"x := t#5;// five", []api.Token{{Kind: api.TName, Text: "x", At: 0}, {Kind: api.TSign, Text: ":=", At: 2},
			{Kind: api.TTime, Text: "t#5", At: 5}, {Kind: api.TSign, Text: ";", At: 8}}},
		{"a<>b->c", []api.Token{{Kind: api.TName, Text: "a", At: 0}, {Kind: api.TSign, Text: "<>", At: 1}, {Kind: api.TName, Text: "b", At: 3},
			{Kind: api.TSign, Text: "->", At: 4}, {Kind: api.TName, Text: "c", At: 6}}},
		{"%i0%q63 %m7", []api.Token{{Kind: api.TAt, Text: "%i0", At: 0}, {Kind: api.TAt, Text: "%q63", At: 3}, {Kind: api.TAt, Text: "%m7", At: 8}}},
		{"5a", []api.Token{{Kind: api.TInt, Text: "5", At: 0}, {Kind: api.TName, Text: "a", At: 1}}},
		{"t#0t", []api.Token{{Kind: api.TTime, Text: "t#0", At: 0}, {Kind: api.TName, Text: "t", At: 3}}},
		{"0 2147483647 t#2147483647", []api.Token{{Kind: api.TInt, Text: "0", At: 0}, {Kind: api.TInt, Text: "2147483647", At: 2},
			{Kind: api.TTime, Text: "t#2147483647", At: 13}}},
		{"end end_if end_ limit limit_", []api.Token{{Kind: api.TWord, Text: "end", At: 0}, {Kind: api.TWord, Text: "end_if", At: 4},
			{Kind: api.TName, Text: "end_", At: 11}, {Kind: api.TName, Text: "limit", At: 16}, {Kind: api.TWord, Text: "limit_", At: 22}}},
		{"twelve_bytes", []api.Token{{Kind: api.TName, Text: "twelve_bytes", At: 0}}},
		{"a/ /b//c\n/d", []api.Token{{Kind: api.TName, Text: "a", At: 0}, {Kind: api.TSign, Text: "/", At: 1}, {Kind: api.TSign, Text: "/", At: 3},
			{Kind: api.TName, Text: "b", At: 4}, {Kind: api.TSign, Text: "/", At: 9}, {Kind: api.TName, Text: "d", At: 10}}},
		{"a//\x00?\xff\r b\n//", []api.Token{{Kind: api.TName, Text: "a", At: 0}}},
	} {
		want := append(x.want, api.Token{Kind: api.TEnd, At: len(x.source)})
		if got, at, e := lexis.Tokens(x.source); e != api.OK || at != 0 || !slices.Equal(got, want) {
			t.Errorf("Tokens(%q) = %v, %d, %d", x.source, got, at, e)
		}
	}
}

func TestLongestSigns(t *testing.T) {
	signs := strings.Fields("( ) [ ] , ; : . := = <> < <= > >= + - * / & | ->")
	for _, s := range signs {
		if l, _, e := lexis.Tokens(s); e != api.OK || len(l) != 2 || l[0] != (api.Token{Kind: api.TSign, Text: s}) {
			t.Errorf("Tokens(%q) = %v, %d", s, l, e)
		}
	}
	for _, x := range [][2]string{{"<=>", "<= >"}, {"<>=", "<> ="}, {":==", ":= ="}, {"-->", "- ->"}, {"->=", "-> ="}, {">==", ">= ="},
		{"<-", "< -"}, {"::=", ": :="}, {"=>", "= >"}, {"><", "> <"}, {"=<", "= <"}} {
		l, _, _ := lexis.Tokens(x[0])
		if s, e := lexis.Join(l); s != x[1] || e != api.OK {
			t.Errorf("Tokens(%q) joined: %q, %d", x[0], s, e)
		}
	}
}

func TestTokensErrors(t *testing.T) {
	for _, x := range []struct {
		source string
		at     int
	}{
		{"%i64", 0}, {"01", 0}, {"x ?", 2}, {"00", 0}, {"a 007", 2}, {"2147483648", 0}, {"99999999999999999999", 0},
		{" t#", 1}, {"t#x", 0}, {"t#01", 0}, {"t#2147483648", 0}, {"t# 5", 0}, {"at#5", 2}, {"t1#5", 2}, {"x t#-5", 2},
		{"%", 0}, {"% i1", 0}, {"%x1", 0}, {"%i", 0}, {"%i01", 0}, {"%i1a", 0}, {"%i1_", 3}, {"%I1", 0}, {"%i-1", 0},
		{"thirteen_byte", 0}, {"a thirteen_bytes_", 2}, {"_a", 0}, {"a _", 2}, {"A", 0}, {"aB", 1}, {"\x00", 0}, {"a\x80", 1},
		{"a \v", 2}, {"a \f b", 2}, {"#", 0}, {"'", 0}, {"\"a\"", 0}, {"a//b\n!", 5}, {"é", 0}, {"a // b \r ?\n ?", 12},
	} {
		if l, at, e := lexis.Tokens(x.source); e != api.ErrSyntax || at != x.at || len(l) != 0 {
			t.Errorf("Tokens(%q) = %v, %d, %d; want position %d", x.source, l, at, e, x.at)
		}
	}
}

func TestLengthOfSources(t *testing.T) {
	for _, s := range []string{" ", "a ", "?", "/", "(", "5", "\n"} {
		long := strings.Repeat(s, api.MaxSource+1)[:api.MaxSource+1]
		if l, at, e := lexis.Tokens(long); e != api.ErrFull || at != 0 || len(l) != 0 {
			t.Errorf("too long, of %q: %d tokens, %d, %d", s, len(l), at, e)
		}
		if _, _, e := lexis.Place(long, 0); e != api.ErrArg {
			t.Errorf("Place, too long: %d", e)
		}
	}
	longest := strings.Repeat("a ", api.MaxSource/2)
	if l, at, e := lexis.Tokens(longest); e != api.OK || at != 0 || len(l) != api.MaxSource/2+1 {
		t.Errorf("longest: %d tokens, %d, %d", len(l), at, e)
	}
}

// tokenForms says what begins where, in the words of regular expressions, as a second opinion.
var tokenForms = []struct {
	kind int
	form *regexp.Regexp
}{
	{0, regexp.MustCompile(`^[\t\n\r ]+`)},
	{0, regexp.MustCompile(`^//[^\n]*`)},
	{api.TTime, regexp.MustCompile(`^t#[0-9]*`)},
	{api.TName, regexp.MustCompile(`^[a-z][a-z0-9_]*`)},
	{api.TInt, regexp.MustCompile(`^[0-9]+`)},
	{api.TAt, regexp.MustCompile(`^%[a-z0-9]*`)},
	{api.TSign, regexp.MustCompile(`^(:=|<>|<=|>=|->|[()\[\],;:.=<>+*/&|-])`)},
}

var numeral = regexp.MustCompile(`^(0|[1-9][0-9]{0,9})$`)

func isNumeral(s string) bool {
	n, _ := strconv.Atoi(s)
	return numeral.MatchString(s) && n <= math.MaxInt32
}

func isForm(kind int, text string) bool {
	switch kind {
	case api.TTime:
		return isNumeral(text[2:])
	case api.TInt:
		return isNumeral(text)
	case api.TName:
		return len(text) <= 12
	case api.TAt:
		return regexp.MustCompile(`^%[iqm]([0-9]|[1-5][0-9]|6[0-3])$`).MatchString(text)
	}
	return true
}

// modelTokens cuts a source by tokenForms; the position is -1 if all of it is tokens.
func modelTokens(source string) ([]api.Token, int) {
	var l []api.Token
	for at := 0; at < len(source); {
		kind, text := 0, ""
		for _, f := range tokenForms {
			if s := bytesMatch(f.form, source[at:]); s != "" {
				kind, text = f.kind, s
				break
			}
		}
		if text == "" || !isForm(kind, text) {
			return nil, at
		}
		if kind == api.TName && slices.Contains(strings.Fields(theWords), text) {
			kind = api.TWord
		}
		if kind != 0 {
			l = append(l, api.Token{Kind: kind, Text: text, At: at})
		}
		at += len(text)
	}
	return append(l, api.Token{Kind: api.TEnd, At: len(source)}), -1
}

// bytesMatch matches only what is plain ASCII, byte by byte.
func bytesMatch(form *regexp.Regexp, s string) string {
	return s[:len(form.FindString(s))]
}

func TestTokensOfAnySource(t *testing.T) {
	r := rand.New(rand.NewSource(1))
	pieces := strings.Split("a|b1|_|t|t#|0|1|9|63|64|%|%i|%q6|m|//|/|\n| |\t|\r|:|=|<|>|-|+|*|&|(|)|[|]|,|;|.|#|?|A|if|end|limit|2147483647|8|abcdefghij|\x00", "|")
	pieces = append(pieces, "|")
	for range 30000 {
		var b strings.Builder
		for range r.Intn(9) {
			b.WriteString(pieces[r.Intn(len(pieces))])
		}
		source := b.String()
		want, wrong := modelTokens(source)
		got, at, e := lexis.Tokens(source)
		if wrong >= 0 && (e != api.ErrSyntax || at != wrong || len(got) != 0) {
			t.Fatalf("Tokens(%q) = %v, %d, %d; want position %d", source, got, at, e, wrong)
		}
		if wrong < 0 && (e != api.OK || at != 0 || !slices.Equal(got, want)) {
			t.Fatalf("Tokens(%q) = %v, %d, %d; want %v", source, got, at, e, want)
		}
		if e == api.OK {
			checkTokens(t, source, got)
		}
	}
}

// checkTokens checks the properties of P1.4.
func checkTokens(t *testing.T, source string, l []api.Token) {
	for _, x := range l {
		if !strings.HasPrefix(source[x.At:], x.Text) {
			t.Fatalf("%q: %v does not stand there", source, x)
		}
	}
	joined, e := lexis.Join(l)
	again, _, f := lexis.Tokens(joined)
	if e != api.OK || f != api.OK || !slices.EqualFunc(l, again, sameText) {
		t.Fatalf("%q joined is %q: %v; %d, %d", source, joined, again, e, f)
	}
	more, _, e := lexis.Tokens(source + "\n// more ?\n")
	n := len(l) - 1
	if e != api.OK || len(more) != len(l) || !slices.Equal(more[:n], l[:n]) || more[n].Kind != api.TEnd {
		t.Fatalf("%q with a comment: %v, %d", source, more, e)
	}
}

func sameText(a, b api.Token) bool {
	return a.Kind == b.Kind && a.Text == b.Text
}

func TestJoin(t *testing.T) {
	end := api.Token{Kind: api.TEnd, At: -7}
	a := api.Token{Kind: api.TName, Text: "a", At: math.MaxInt}
	plus := api.Token{Kind: api.TSign, Text: "+", At: -1}
	for _, x := range []struct {
		l    []api.Token
		want string
	}{
		{nil, ""}, {[]api.Token{}, ""}, {[]api.Token{end}, ""}, {[]api.Token{a}, "a"}, {[]api.Token{a, end}, "a"},
		{[]api.Token{a, plus, a}, "a + a"}, {[]api.Token{a, plus, a, end}, "a + a"},
		{[]api.Token{{Kind: api.TWord, Text: "if"}, {Kind: api.TInt, Text: "0"}, {Kind: api.TTime, Text: "t#7"}, {Kind: api.TAt, Text: "%m63"}}, "if 0 t#7 %m63"},
		{[]api.Token{{Kind: api.TSign, Text: "/"}, {Kind: api.TSign, Text: "/"}, {Kind: api.TSign, Text: "-"}, {Kind: api.TSign, Text: ">"}}, "/ / - >"},
	} {
		if s, e := lexis.Join(x.l); s != x.want || e != api.OK {
			t.Errorf("Join(%v) = %q, %d", x.l, s, e)
		}
	}
}

func TestJoinErrors(t *testing.T) {
	a := api.Token{Kind: api.TName, Text: "a"}
	for _, x := range []api.Token{
		{}, {Kind: api.TName}, {Kind: api.TEnd, Text: "a"}, {Kind: api.TEnd, Text: " "}, {Kind: 8, Text: "a"}, {Kind: -1, Text: "a"},
		{Text: "a"}, {Text: "?"}, {Kind: api.TName, Text: "if"}, {Kind: api.TWord, Text: "a"}, {Kind: api.TName, Text: "1"},
		{Kind: api.TName, Text: "thirteen_byte"}, {Kind: api.TName, Text: "a b"}, {Kind: api.TName, Text: " a"}, {Kind: api.TName, Text: "a "},
		{Kind: api.TName, Text: "a//"}, {Kind: api.TName, Text: "A"}, {Kind: api.TInt, Text: "01"}, {Kind: api.TInt, Text: "2147483648"},
		{Kind: api.TInt, Text: "-1"}, {Kind: api.TInt, Text: "+1"}, {Kind: api.TInt, Text: "1_0"}, {Kind: api.TInt, Text: "t#1"},
		{Kind: api.TTime, Text: "t#"}, {Kind: api.TTime, Text: "1"}, {Kind: api.TTime, Text: "t#00"}, {Kind: api.TTime, Text: "t"},
		{Kind: api.TAt, Text: "%i64"}, {Kind: api.TAt, Text: "%i1 "}, {Kind: api.TAt, Text: "%"}, {Kind: api.TSign, Text: "%"},
		{Kind: api.TSign, Text: "//"}, {Kind: api.TSign, Text: "=="}, {Kind: api.TSign, Text: "?"}, {Kind: api.TSign, Text: " "},
		{Kind: api.TName, Text: strings.Repeat("a", 100000)}, {Kind: api.TInt, Text: strings.Repeat("1", 100000)},
	} {
		for _, l := range [][]api.Token{{x}, {a, x}, {x, a}, {a, x, {Kind: api.TEnd}}} {
			if s, e := lexis.Join(l); s != "" || e != api.ErrArg {
				t.Errorf("Join(%v) = %q, %d", l, s, e)
			}
		}
	}
	end := api.Token{Kind: api.TEnd}
	for _, l := range [][]api.Token{{end, end}, {end, a}, {a, end, a}, {a, end, end}} {
		if s, e := lexis.Join(l); s != "" || e != api.ErrArg {
			t.Errorf("Join(%v) = %q, %d", l, s, e)
		}
	}
}

func TestLengthOfJoined(t *testing.T) {
	plus := api.Token{Kind: api.TSign, Text: "+"}
	two := api.Token{Kind: api.TSign, Text: "<>"}
	full := append(slices.Repeat([]api.Token{plus}, api.MaxSource/2-1), two)
	if s, e := lexis.Join(full); len(s) != api.MaxSource || e != api.OK {
		t.Errorf("as long as may be: %d, %d", len(s), e)
	}
	if s, e := lexis.Join(append(full, api.Token{Kind: api.TEnd})); len(s) != api.MaxSource || e != api.OK {
		t.Errorf("as long as may be, with an end: %d, %d", len(s), e)
	}
	full[0] = two
	if s, e := lexis.Join(full); s != "" || e != api.ErrArg {
		t.Errorf("too long: %d, %d", len(s), e)
	}
	if s, e := lexis.Join(slices.Repeat([]api.Token{plus}, 1000000)); s != "" || e != api.ErrArg {
		t.Errorf("much too long: %d, %d", len(s), e)
	}
}

// theWords is as the chapter has it.
const theWords = "add and andn at block bool box by cal calc calcn case delay div do else elsif end end_case end_for end_if end_repeat end_while enter eq every exit fall false fbd for from function ge gt if il initial input int jmp jmpc jmpcn jump ld ldn le leave limit_ local lt macro mod mul ne not of or orn output phase priority program repeat reset ret retain retc retcn return rise run rung set sfc st step stn sub task then time to transition true until when while xor xorn"

func TestWords(t *testing.T) {
	words := lexis.Words()
	if !slices.Equal(words, strings.Fields(theWords)) || !slices.IsSorted(words) {
		t.Errorf("Words = %v", words)
	}
	for _, w := range words {
		if !lexis.IsWord(w) || lexis.IsName(w) {
			t.Errorf("%q is a word", w)
		}
		if l, _, _ := lexis.Tokens(w); len(l) != 2 || l[0].Kind != api.TWord {
			t.Errorf("Tokens(%q) = %v", w, l)
		}
	}
	clear(words)
	if !slices.Equal(lexis.Words(), strings.Fields(theWords)) {
		t.Error("the words were changed by their taker")
	}
}

func TestNames(t *testing.T) {
	for _, s := range []string{"a", "t", "t1", "z_9", "limit", "end_", "endif", "a___________", "twelve_bytes", "ends", "orr", "n0t"} {
		if !lexis.IsName(s) || lexis.IsWord(s) || lexis.IsAddress(s) {
			t.Errorf("%q is a name", s)
		}
	}
	for _, s := range []string{"", " ", "1", "1a", "_", "_a", "A", "aB", "a b", " a", "a ", "a-b", "a.b", "thirteen_byte", "é", "a\x00", "end end_case",
		" end ", "end ", "t#1", "%i1", "a\n", strings.Repeat("a", 1000000)} {
		if lexis.IsName(s) || lexis.IsWord(s) {
			t.Errorf("%.20q is neither a name nor a word", s)
		}
	}
}

func TestAddresses(t *testing.T) {
	for _, area := range []string{"i", "q", "m"} {
		for n := range 200 {
			if s := "%" + area + strconv.Itoa(n); lexis.IsAddress(s) != (n <= 63) {
				t.Errorf("IsAddress(%q) = %v", s, n > 63)
			}
		}
	}
	for _, s := range []string{"", "%", "%i", "%i00", "%i01", "%i-1", "%i+1", "%i1 ", " %i1", "%I1", "%x1", "i1", "%%1", "%i1q1", "%i0x1", "%i6_3", "%m1000000000000000000000"} {
		if lexis.IsAddress(s) {
			t.Errorf("%q is no address", s)
		}
	}
}

func TestPlace(t *testing.T) {
	for _, source := range []string{"", "\n", "a", "a\nbc", "\n\n?\n", "a\r\nb\n", "é\nü"} {
		line, column := 1, 1
		for at := 0; at <= len(source); at++ {
			if l, c, e := lexis.Place(source, at); l != line || c != column || e != api.OK {
				t.Errorf("Place(%q, %d) = %d, %d, %d; want %d, %d", source, at, l, c, e, line, column)
			}
			column++
			if at < len(source) && source[at] == '\n' {
				line, column = line+1, 1
			}
		}
		for _, at := range []int{-1, len(source) + 1, math.MinInt, math.MaxInt} {
			if l, c, e := lexis.Place(source, at); l != 0 || c != 0 || e != api.ErrArg {
				t.Errorf("Place(%q, %d) = %d, %d, %d", source, at, l, c, e)
			}
		}
	}
	longest := strings.Repeat("\n", api.MaxSource)
	if l, c, e := lexis.Place(longest, api.MaxSource); l != api.MaxSource+1 || c != 1 || e != api.OK {
		t.Errorf("Place in the longest source: %d, %d, %d", l, c, e)
	}
}

// TestAnyBytes is about P1 and P2: no panic, and the same results again.
func TestAnyBytes(t *testing.T) {
	r := rand.New(rand.NewSource(2))
	for range 5000 {
		b := make([]byte, r.Intn(12))
		r.Read(b)
		s := string(b)
		l, at, e := lexis.Tokens(s)
		m, at2, e2 := lexis.Tokens(s)
		if !slices.Equal(l, m) || at != at2 || e != e2 || at < 0 || at > len(s) {
			t.Fatalf("Tokens(%q) = %v, %d, %d and %v, %d, %d", s, l, at, e, m, at2, e2)
		}
		lexis.IsName(s)
		lexis.IsWord(s)
		lexis.IsAddress(s)
		lexis.Join([]api.Token{{Kind: r.Intn(10) - 1, Text: s, At: r.Int()}})
	}
}
