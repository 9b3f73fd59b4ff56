package text_test

import (
	"fmt"
	"math"
	"math/big"
	"math/rand"
	"regexp"
	"slices"
	"strconv"
	"strings"
	"testing"

	"stenotype/api"
	"stenotype/text"
)

// longest is how many bytes a grammar text may have.
const longest = 2000

// What texts consist of, told apart from the program.
var (
	between = regexp.MustCompile(`\A(?:[ \t\n\r]|#[^\n]*)*`)
	word    = regexp.MustCompile(`\A[a-zA-Z][a-zA-Z0-9_]*`)
	digits  = regexp.MustCompile(`\A[0-9]+`)
	sign    = regexp.MustCompile(`\A[=|;,]`)
	number  = regexp.MustCompile(`\A(?:0|[1-9][0-9]*)\z`)
	joined  = regexp.MustCompile(`\A[0-9]+[a-zA-Z_]`)
	wholes  = [...]*regexp.Regexp{regexp.MustCompile(`\A[a-zA-Z][a-zA-Z0-9_]*\z`), number, regexp.MustCompile(`\A[=|;,]\z`)}
)

// lexeme returns a lexeme.
func lexeme(kind int, s string, at int) api.Lexeme {
	return api.Lexeme{Kind: kind, Text: s, At: at}
}

// at returns the fault e at the offset n.
func at(e api.Errno, n int) api.Fault {
	return api.Fault{Err: e, At: n}
}

// nextOf returns what Next must return for s and from.
func nextOf(s string, from int) (api.Lexeme, int, api.Fault) {
	if from < 0 || from > len(s) {
		return api.Lexeme{}, 0, at(api.ErrRange, 0)
	}
	begin := from + len(between.FindString(s[from:]))
	rest := s[begin:]
	if rest == "" {
		return api.Lexeme{}, 0, at(api.ErrShort, len(s))
	}
	if w := word.FindString(rest); w != "" {
		return lexeme(1, w, begin), begin + len(w), api.Fault{}
	}
	if d := digits.FindString(rest); number.MatchString(d) && !joined.MatchString(rest) {
		return lexeme(2, d, begin), begin + len(d), api.Fault{}
	}
	if g := sign.FindString(rest); g != "" {
		return lexeme(3, g, begin), begin + 1, api.Fault{}
	}
	return api.Lexeme{}, 0, at(api.ErrForm, begin)
}

// lexemesOf returns what Lexemes must return for s.
func lexemesOf(s string) ([]api.Lexeme, api.Fault) {
	if len(s) > longest {
		return nil, at(api.ErrLong, longest)
	}
	var l []api.Lexeme
	for from := 0; ; {
		x, next, f := nextOf(s, from)
		if f.Err == api.ErrShort {
			return l, api.Fault{}
		}
		if f.Err != api.OK {
			return nil, f
		}
		l = append(l, x)
		from = next
	}
}

// checkOf returns what Check must return for x.
func checkOf(x api.Lexeme) api.Errno {
	switch {
	case x.Kind < 1 || x.Kind > 3:
		return api.ErrKind
	case !wholes[x.Kind-1].MatchString(x.Text):
		return api.ErrForm
	case x.At < 0:
		return api.ErrRange
	}
	return api.OK
}

// strungOf yields all strings of at most most of these bytes.
func strungOf(bytes string, most int) func(yield func(string) bool) {
	var all func(s string, yield func(string) bool) bool
	all = func(s string, yield func(string) bool) bool {
		if !yield(s) {
			return false
		}
		for i := 0; len(s) < most && i < len(bytes); i++ {
			if !all(s+bytes[i:i+1], yield) {
				return false
			}
		}
		return true
	}
	return func(yield func(string) bool) { all("", yield) }
}

// samples are texts of many kinds, with lexemes and with faults.
func samples() []string {
	l := []string{
		"", " ", "\n", "#", "##", "# only", "#\n", "#\n#", "# a # b\nc", "a#b\nc#d", "#\r a", "#\ta\nb\n", " \t\r\n", "\r\n\r\n",
		"a", "Z", "a_9Z z", "a__", "a1b2", "lookahead 2; # k\nS = a | ;", "0", "0 0", "10 010", "00", "7a", "7_", "7#a\na", "7 a", "7;a", "a7 7",
		"=|;,", "==", "a=b|c;d,e", "-1", "+1", "_a", "a._b", "a b\x00", "\xff", "a \xff", "# \xff é\na", "é", "aé", "a é", "ａ", "a\u2028b", "\u00a0a",
		"\v", "\f", "a\vb", "a\\b", "'a'", "\"a\"", "a:b", "a/b", "{a}", "[0]", "(a)", "a*", "x~", "x<y", "x>y", "@", "`", "^", "$", "!",
		"9999999999999999999999999999999", "1234567890_", "1234567890A", "lookahead 2; token a, b; separator c; start S; S = a S | b | ;",
		strings.Repeat("a", longest), strings.Repeat("a ", longest/2), strings.Repeat("7", longest), strings.Repeat("|", longest), strings.Repeat(" ", longest),
		"#" + strings.Repeat("x", longest-1), strings.Repeat("#\n", longest/2), strings.Repeat("; ", longest/2-1) + "-;", strings.Repeat("0", longest),
	}
	r := rand.New(rand.NewSource(4))
	parts := []string{"a", "Bc", "d_0", "0", "7", "42", "=", "|", ";", ",", " ", "\t", "\n", "\r", "# x;\n", "#\n", "#y", "-", "_", "é", "\x00", "007"}
	for range 3000 {
		var s strings.Builder
		// The parts at the end are faults, or remarks that hide what follows: half of the texts have none of them.
		some := len(parts) - 6*r.Intn(2)
		for range r.Intn(12) {
			s.WriteString(parts[r.Intn(some)])
		}
		l = append(l, s.String())
	}
	return l
}

// sound are the samples that are texts of lexemes.
func sound() []string {
	return slices.DeleteFunc(samples(), func(s string) bool {
		_, f := lexemesOf(s)
		return f.Err != api.OK
	})
}

// lists are lists of lexemes whose text is not too long: those of texts, and of lexemes put together at random.
func lists() [][]api.Lexeme {
	var l [][]api.Lexeme
	for _, s := range sound() {
		x, _ := lexemesOf(s)
		l = append(l, x)
	}
	all := []api.Lexeme{lexeme(1, "a", 0), lexeme(1, "token", 9), lexeme(1, "A_0", 3), lexeme(2, "0", 3), lexeme(2, "10", 0), lexeme(2, strings.Repeat("9", 40), 7), lexeme(3, "=", 0), lexeme(3, "|", math.MaxInt), lexeme(3, ";", 1), lexeme(3, ",", 2)}
	r := rand.New(rand.NewSource(44))
	for n := range 40 {
		var x []api.Lexeme
		for range n {
			x = append(x, all[r.Intn(len(all))])
		}
		l = append(l, x)
	}
	return l
}

// odd are lexemes of many kinds, most of which are none.
func odd() []api.Lexeme {
	var l []api.Lexeme
	texts := append(samples()[:100], strings.Repeat("a", longest+1), strings.Repeat("1", longest+1), "a\n", "a#", " a", "a ", "#\na", "1#", " 1", "1 ", "; ", " ;", "=|", ";;", "9223372036854775807", "9223372036854775808")
	for _, kind := range []int{math.MinInt, -1, 0, 1, 2, 3, 4, 1<<32 + 1, math.MaxInt} {
		for _, s := range texts {
			for _, n := range []int{math.MinInt, -1, 0, 1, math.MaxInt} {
				l = append(l, lexeme(kind, s, n))
			}
		}
	}
	return l
}

// lexemes returns the lexemes of s, which must be a text of lexemes.
func lexemes(t *testing.T, s string) []api.Lexeme {
	t.Helper()
	l, f := text.Lexemes(s)
	if f != (api.Fault{}) {
		t.Fatalf("Lexemes(%.60q): %v", s, f)
	}
	return l
}

// textOf returns the text of l, which must have one.
func textOf(t *testing.T, l []api.Lexeme) string {
	t.Helper()
	s, e := text.Text(l)
	if e != api.OK {
		t.Fatalf("Text(%s): %v", brief(l), e)
	}
	return s
}

// brief returns the beginning of what v looks like.
func brief(v any) string {
	return fmt.Sprintf("%.100s", fmt.Sprintf("%+v", v))
}

// holdNext holds Next of s and from against what it must return.
func holdNext(t *testing.T, s string, from int) {
	t.Helper()
	x, next, f := text.Next(s, from)
	if wantX, wantNext, wantF := nextOf(s, from); x != wantX || next != wantNext || f != wantF {
		t.Fatalf("Next(%.60q, %d) = %s, %d, %v; want %s, %d, %v", s, from, brief(x), next, f, brief(wantX), wantNext, wantF)
	}
}

// holdLexemes holds Lexemes of s against what it must return.
func holdLexemes(t *testing.T, s string) {
	t.Helper()
	l, f := text.Lexemes(s)
	if wantL, wantF := lexemesOf(s); !slices.Equal(l, wantL) || f != wantF {
		t.Fatalf("Lexemes(%.60q) = %s, %v; want %s, %v", s, brief(l), f, brief(wantL), wantF)
	}
}

// P4.1, with the third and the fourth row of the examples.
func TestNext(t *testing.T) {
	for _, c := range []struct {
		s    string
		from int
		x    api.Lexeme
		next int
		f    api.Fault
	}{
		{"a b", 1, lexeme(1, "b", 2), 3, api.Fault{}},
		{"a b", 3, api.Lexeme{}, 0, at(api.ErrShort, 3)},
		{"a", 2, api.Lexeme{}, 0, at(api.ErrRange, 0)},
		{"007", 0, api.Lexeme{}, 0, at(api.ErrForm, 0)},
		{"7a", 0, api.Lexeme{}, 0, at(api.ErrForm, 0)},
		{"7 a", 0, lexeme(2, "7", 0), 1, api.Fault{}},
		{"_a", 0, api.Lexeme{}, 0, at(api.ErrForm, 0)},
		{"-1", 0, api.Lexeme{}, 0, at(api.ErrForm, 0)},
		// The offset may be any one, in a lexeme and in a remark, too.
		{"abc", 1, lexeme(1, "bc", 1), 3, api.Fault{}},
		{"007", 1, api.Lexeme{}, 0, at(api.ErrForm, 1)},
		{"007", 2, lexeme(2, "7", 2), 3, api.Fault{}},
		{"7a", 1, lexeme(1, "a", 1), 2, api.Fault{}},
		{"# a\nb", 0, lexeme(1, "b", 4), 5, api.Fault{}},
		{"# a\nb", 1, lexeme(1, "a", 2), 3, api.Fault{}},
		{"# a\nb", 3, lexeme(1, "b", 4), 5, api.Fault{}},
		{"a", -1, api.Lexeme{}, 0, at(api.ErrRange, 0)},
		{"", 0, api.Lexeme{}, 0, at(api.ErrShort, 0)},
		{"", 1, api.Lexeme{}, 0, at(api.ErrRange, 0)},
		// Faults stand behind the blanks and remarks, and at the first one of the digits.
		{"a  # x", 1, api.Lexeme{}, 0, at(api.ErrShort, 6)},
		{" \t\r\n", 0, api.Lexeme{}, 0, at(api.ErrShort, 4)},
		{"a # x\n\t-", 1, api.Lexeme{}, 0, at(api.ErrForm, 7)},
		{" 12345x", 0, api.Lexeme{}, 0, at(api.ErrForm, 1)},
		{" 120_", 0, api.Lexeme{}, 0, at(api.ErrForm, 1)},
		{"0a", 0, api.Lexeme{}, 0, at(api.ErrForm, 0)},
		{"0_", 0, api.Lexeme{}, 0, at(api.ErrForm, 0)},
		{"00", 0, api.Lexeme{}, 0, at(api.ErrForm, 0)},
		// Letters, digits and blanks are those of the document alone.
		{"é", 0, api.Lexeme{}, 0, at(api.ErrForm, 0)},
		{"aé", 0, lexeme(1, "a", 0), 1, api.Fault{}},
		{"7é", 0, lexeme(2, "7", 0), 1, api.Fault{}},
		{"7٣", 0, lexeme(2, "7", 0), 1, api.Fault{}},
		{"\va", 0, api.Lexeme{}, 0, at(api.ErrForm, 0)},
		{"\x00", 0, api.Lexeme{}, 0, at(api.ErrForm, 0)},
		// Behind a word, a number or a sign anything else may begin.
		{"a=", 0, lexeme(1, "a", 0), 1, api.Fault{}},
		{"7;", 0, lexeme(2, "7", 0), 1, api.Fault{}},
		{"70#a", 0, lexeme(2, "70", 0), 2, api.Fault{}},
		{"0-", 0, lexeme(2, "0", 0), 1, api.Fault{}},
		{"==", 0, lexeme(3, "=", 0), 1, api.Fault{}},
		{",a", 0, lexeme(3, ",", 0), 1, api.Fault{}},
		{"|7", 0, lexeme(3, "|", 0), 1, api.Fault{}},
		{";_", 0, lexeme(3, ";", 0), 1, api.Fault{}},
	} {
		if x, next, f := text.Next(c.s, c.from); x != c.x || next != c.next || f != c.f {
			t.Errorf("Next(%q, %d) = %v, %d, %v; want %v, %d, %v", c.s, c.from, x, next, f, c.x, c.next, c.f)
		}
	}
}

// P4.1: all short texts, all bytes, and texts of any length.
func TestNextOfAllTexts(t *testing.T) {
	for s := range strungOf("aZ019_#\n ;=-", 4) {
		for from := -1; from <= len(s)+1; from++ {
			holdNext(t, s, from)
		}
	}
	for _, s := range samples() {
		for from := -1; from <= min(len(s), 60)+1; from++ {
			holdNext(t, s, from)
		}
	}
	for a := range 256 {
		for b := range 256 {
			s := string([]byte{byte(a), byte(b)})
			holdNext(t, s, 0)
			holdNext(t, s, 1)
		}
	}
	// Next, unlike Lexemes, has no bound.
	for _, c := range []struct {
		s string
		n int
	}{{strings.Repeat("a", 10*longest), 1}, {strings.Repeat("8", 10*longest), 2}, {strings.Repeat(" ", 10*longest) + "|", 3}} {
		holdNext(t, c.s, 0)
		if x, next, f := text.Next(c.s, 0); x.Kind != c.n || next != len(c.s) || f != (api.Fault{}) {
			t.Errorf("Next of %d bytes: kind %d, %d, %v", len(c.s), x.Kind, next, f)
		}
	}
	for _, from := range []int{math.MinInt, -1, 4, math.MaxInt} {
		if x, next, f := text.Next("a b", from); x != (api.Lexeme{}) || next != 0 || f != at(api.ErrRange, 0) {
			t.Errorf("Next from %d: %v, %d, %v", from, x, next, f)
		}
	}
}

// P4.2, with the first and the second row of the examples.
func TestLexemes(t *testing.T) {
	for _, c := range []struct {
		s    string
		want []api.Lexeme
		f    api.Fault
	}{
		{"lookahead 2; # k\nS = a | ;", []api.Lexeme{lexeme(1, "lookahead", 0), lexeme(2, "2", 10), lexeme(3, ";", 11), lexeme(1, "S", 17), lexeme(3, "=", 19), lexeme(1, "a", 21), lexeme(3, "|", 23), lexeme(3, ";", 25)}, api.Fault{}},
		{"", nil, api.Fault{}},
		{"# only", nil, api.Fault{}},
		{" \r\n\t# a\n# b\n", nil, api.Fault{}},
		{"a,0|Z=;", []api.Lexeme{lexeme(1, "a", 0), lexeme(3, ",", 1), lexeme(2, "0", 2), lexeme(3, "|", 3), lexeme(1, "Z", 4), lexeme(3, "=", 5), lexeme(3, ";", 6)}, api.Fault{}},
		{"a#b\rc\nd", []api.Lexeme{lexeme(1, "a", 0), lexeme(1, "d", 6)}, api.Fault{}},
		{"0 0\n10", []api.Lexeme{lexeme(2, "0", 0), lexeme(2, "0", 2), lexeme(2, "10", 4)}, api.Fault{}},
		{"1#\n_", nil, at(api.ErrForm, 3)},
		{"a b - c + 007", nil, at(api.ErrForm, 4)},
		{"a 007 -", nil, at(api.ErrForm, 2)},
		{"a 7a", nil, at(api.ErrForm, 2)},
		{"a_9é", nil, at(api.ErrForm, 3)},
	} {
		if l, f := text.Lexemes(c.s); !slices.Equal(l, c.want) || f != c.f {
			t.Errorf("Lexemes(%q) = %v, %v; want %v, %v", c.s, l, f, c.want, c.f)
		}
	}
	for _, s := range samples() {
		holdLexemes(t, s)
	}
	for s := range strungOf("aB05_#\n =-", 4) {
		holdLexemes(t, s)
	}
}

// P4.2: texts have at most 2,000 bytes.
func TestLongTexts(t *testing.T) {
	for _, c := range []struct {
		s string
		n int
		f api.Fault
	}{
		{strings.Repeat("a", longest), 1, api.Fault{}},
		{strings.Repeat("=", longest), longest, api.Fault{}},
		{strings.Repeat(" ", longest), 0, api.Fault{}},
		{strings.Repeat("=", longest-1) + "-", 0, at(api.ErrForm, longest-1)},
		{strings.Repeat("=", longest) + "=", 0, at(api.ErrLong, longest)},
		{strings.Repeat(" ", longest) + " ", 0, at(api.ErrLong, longest)},
		{"#" + strings.Repeat(" ", longest), 0, at(api.ErrLong, longest)},
		// The length counts first.
		{"-" + strings.Repeat("=", longest), 0, at(api.ErrLong, longest)},
		{strings.Repeat("é", longest), 0, at(api.ErrLong, longest)},
		{strings.Repeat("a ", 100*longest), 0, at(api.ErrLong, longest)},
	} {
		if l, f := text.Lexemes(c.s); len(l) != c.n || f != c.f {
			t.Errorf("Lexemes of %d bytes, of which the first one is %q: %d lexemes, %v; want %d, %v", len(c.s), c.s[0], len(l), f, c.n, c.f)
		}
	}
}

// P4.3: Check.
func TestCheck(t *testing.T) {
	for _, c := range []struct {
		x    api.Lexeme
		want api.Errno
	}{
		{lexeme(1, "a", 0), api.OK}, {lexeme(1, "token", 5), api.OK}, {lexeme(1, "A_1", math.MaxInt), api.OK}, {lexeme(1, strings.Repeat("a", 5000), 0), api.OK},
		{lexeme(2, "0", 0), api.OK}, {lexeme(2, "10", 0), api.OK}, {lexeme(2, strings.Repeat("9", 5000), 0), api.OK},
		{lexeme(3, "=", 0), api.OK}, {lexeme(3, "|", 0), api.OK}, {lexeme(3, ";", 0), api.OK}, {lexeme(3, ",", 0), api.OK},
		{lexeme(0, "a", 0), api.ErrKind}, {lexeme(4, "a", 0), api.ErrKind}, {lexeme(-1, ";", 0), api.ErrKind}, {lexeme(math.MaxInt, "1", 0), api.ErrKind},
		{lexeme(1, "", 0), api.ErrForm}, {lexeme(2, "", 0), api.ErrForm}, {lexeme(3, "", 0), api.ErrForm},
		{lexeme(1, "1", 0), api.ErrForm}, {lexeme(1, ";", 0), api.ErrForm}, {lexeme(2, "a", 0), api.ErrForm}, {lexeme(2, ",", 0), api.ErrForm}, {lexeme(3, "a", 0), api.ErrForm}, {lexeme(3, "0", 0), api.ErrForm},
		{lexeme(1, "a b", 0), api.ErrForm}, {lexeme(1, "a ", 0), api.ErrForm}, {lexeme(1, " a", 0), api.ErrForm}, {lexeme(1, "a#", 0), api.ErrForm}, {lexeme(1, "#\na", 0), api.ErrForm}, {lexeme(1, "_a", 0), api.ErrForm}, {lexeme(1, "aé", 0), api.ErrForm}, {lexeme(1, "a;", 0), api.ErrForm},
		{lexeme(2, "00", 0), api.ErrForm}, {lexeme(2, "07", 0), api.ErrForm}, {lexeme(2, "7a", 0), api.ErrForm}, {lexeme(2, "-1", 0), api.ErrForm}, {lexeme(2, "+1", 0), api.ErrForm}, {lexeme(2, "1_000", 0), api.ErrForm}, {lexeme(2, "1 ", 0), api.ErrForm}, {lexeme(2, " 1", 0), api.ErrForm},
		{lexeme(3, "==", 0), api.ErrForm}, {lexeme(3, "=|", 0), api.ErrForm}, {lexeme(3, " ;", 0), api.ErrForm}, {lexeme(3, "; ", 0), api.ErrForm}, {lexeme(3, ":", 0), api.ErrForm}, {lexeme(3, "-", 0), api.ErrForm},
		{lexeme(1, "a", -1), api.ErrRange}, {lexeme(2, "0", math.MinInt), api.ErrRange}, {lexeme(3, ";", -1), api.ErrRange},
		// Of several errors the kind comes first, then the text.
		{lexeme(0, "-", -1), api.ErrKind}, {lexeme(4, "", 0), api.ErrKind}, {lexeme(1, "-", -1), api.ErrForm}, {lexeme(2, "a", -1), api.ErrForm},
	} {
		if e := text.Check(c.x); e != c.want {
			t.Errorf("Check(%s) = %v, want %v", brief(c.x), e, c.want)
		}
	}
	for _, x := range odd() {
		if e, want := text.Check(x), checkOf(x); e != want {
			t.Fatalf("Check(%s) = %v, want %v", brief(x), e, want)
		}
	}
	for s := range strungOf("aZ09_ ;|-", 3) {
		for kind := range 5 {
			if x := lexeme(kind, s, len(s)); text.Check(x) != checkOf(x) {
				t.Fatalf("Check(%v) = %v, want %v", x, text.Check(x), checkOf(x))
			}
		}
	}
	for b := range 256 {
		for _, s := range []string{"", "a", "7"} {
			for kind := 1; kind <= 3; kind++ {
				if x := lexeme(kind, s+string([]byte{byte(b)}), 0); text.Check(x) != checkOf(x) {
					t.Fatalf("Check(%d, %q) = %v, want %v", kind, x.Text, text.Check(x), checkOf(x))
				}
			}
		}
	}
}

// P4.3: Number, with the fifth row of the examples.
func TestNumber(t *testing.T) {
	for _, c := range []struct {
		x           api.Lexeme
		least, most int
		n           int
		e           api.Errno
	}{
		{lexeme(2, "2", 0), 1, 4, 2, api.OK},
		{lexeme(2, "5", 0), 1, 4, 0, api.ErrRange},
		{lexeme(1, "a", 0), 1, 4, 0, api.ErrKind},
		{lexeme(3, ";", 0), 1, 4, 0, api.ErrKind},
		{lexeme(2, "1", 9), 1, 4, 1, api.OK},
		{lexeme(2, "4", 9), 1, 4, 4, api.OK},
		{lexeme(2, "0", 9), 1, 4, 0, api.ErrRange},
		{lexeme(2, "0", 9), 0, 0, 0, api.OK},
		{lexeme(2, "0", 9), -5, -1, 0, api.ErrRange},
		{lexeme(2, "3", 9), 4, 2, 0, api.ErrRange},
		{lexeme(2, "3", 9), math.MaxInt, math.MinInt, 0, api.ErrRange},
		{lexeme(2, "9223372036854775807", 0), math.MinInt, math.MaxInt, math.MaxInt, api.OK},
		{lexeme(2, "9223372036854775807", 0), math.MinInt, math.MaxInt - 1, 0, api.ErrRange},
		{lexeme(2, "9223372036854775808", 0), math.MinInt, math.MaxInt, 0, api.ErrRange},
		{lexeme(2, "18446744073709551617", 0), math.MinInt, math.MaxInt, 0, api.ErrRange},
		{lexeme(2, strings.Repeat("1", 5000), 0), math.MinInt, math.MaxInt, 0, api.ErrRange},
		// What Check says comes first, and the kind before the value.
		{lexeme(0, "2", 0), 1, 4, 0, api.ErrKind},
		{lexeme(2, "02", 0), 1, 4, 0, api.ErrForm},
		{lexeme(2, "-2", 0), -4, 4, 0, api.ErrForm},
		{lexeme(2, "a", 0), 1, 4, 0, api.ErrForm},
		{lexeme(1, "2", 0), 1, 4, 0, api.ErrForm},
		{lexeme(2, "2", -1), 1, 4, 0, api.ErrRange},
		{lexeme(1, "a", -1), 1, 4, 0, api.ErrRange},
		{lexeme(1, "a", 0), 4, 1, 0, api.ErrKind},
	} {
		if n, e := text.Number(c.x, c.least, c.most); n != c.n || e != c.e {
			t.Errorf("Number(%s, %d, %d) = %d, %v; want %d, %v", brief(c.x), c.least, c.most, n, e, c.n, c.e)
		}
	}
}

// P4.3: Number of all that may be asked, held against numbers of any size.
func TestNumberIsExact(t *testing.T) {
	bounds := []int{math.MinInt, -1, 0, 1, 7, 999, 1<<32 - 1, 1 << 32, math.MaxInt - 1, math.MaxInt}
	for _, x := range append(odd(), lexeme(2, "7", 0), lexeme(2, "999", 0), lexeme(2, "1000", 0), lexeme(2, "4294967295", 0), lexeme(2, "4294967296", 0), lexeme(2, "9223372036854775806", 0)) {
		for _, least := range bounds {
			for _, most := range bounds {
				n, e := text.Number(x, least, most)
				wantN, wantE := 0, checkOf(x)
				if wantE == api.OK && x.Kind != 2 {
					wantE = api.ErrKind
				}
				if wantE == api.OK {
					value, _ := new(big.Int).SetString(x.Text, 10)
					if value.Cmp(big.NewInt(int64(least))) < 0 || value.Cmp(big.NewInt(int64(most))) > 0 {
						wantE = api.ErrRange
					} else {
						wantN = int(value.Int64())
					}
				}
				if n != wantN || e != wantE {
					t.Fatalf("Number(%s, %d, %d) = %d, %v; want %d, %v", brief(x), least, most, n, e, wantN, wantE)
				}
			}
		}
	}
}

// P4.3: Is.
func TestIs(t *testing.T) {
	for _, c := range []struct {
		x    api.Lexeme
		kind int
		s    string
		want bool
	}{
		{lexeme(1, "a", 5), 1, "a", true}, {lexeme(2, "1", 5), 2, "1", true}, {lexeme(3, ";", -5), 3, ";", true},
		{lexeme(1, "a", 5), 2, "a", false}, {lexeme(1, "a", 5), 1, "A", false}, {lexeme(1, "a", 5), 1, "ab", false}, {lexeme(1, "ab", 5), 1, "a", false}, {lexeme(1, "a", 5), 1, "", false},
		// It asks for no more than that both are equal.
		{lexeme(0, "", 0), 0, "", true}, {lexeme(9, "- -", 0), 9, "- -", true}, {lexeme(9, "- -", 0), 1, "- -", false},
	} {
		if is := text.Is(c.x, c.kind, c.s); is != c.want {
			t.Errorf("Is(%v, %d, %q) = %v", c.x, c.kind, c.s, is)
		}
	}
}

// P4.4: Text, with the sixth row of the examples.
func TestText(t *testing.T) {
	for _, c := range []struct {
		l    []api.Lexeme
		want string
		e    api.Errno
	}{
		{[]api.Lexeme{lexeme(1, "S", 0), lexeme(3, "=", 2), lexeme(1, "a", 4)}, "S = a", api.OK},
		{nil, "", api.OK},
		{[]api.Lexeme{}, "", api.OK},
		{[]api.Lexeme{lexeme(3, ";", 7)}, ";", api.OK},
		{[]api.Lexeme{lexeme(2, "1", 7), lexeme(1, "a", 0), lexeme(2, "0", 3), lexeme(3, ",", 3)}, "1 a 0 ,", api.OK},
		// It is the first lexeme with an error that counts.
		{[]api.Lexeme{lexeme(1, "a", -1), lexeme(0, "a", 0), lexeme(1, "-", 0)}, "", api.ErrRange},
		{[]api.Lexeme{lexeme(1, "a", 0), lexeme(1, "-", -1), lexeme(0, "a", 0)}, "", api.ErrForm},
		{[]api.Lexeme{lexeme(1, "a", 0), lexeme(1, "b", 0), lexeme(4, "-", -1), lexeme(1, "a", -1)}, "", api.ErrKind},
		{[]api.Lexeme{lexeme(1, "a", 0), lexeme(1, "", 0)}, "", api.ErrForm},
		{[]api.Lexeme{{}}, "", api.ErrKind},
	} {
		if s, e := text.Text(c.l); s != c.want || e != c.e {
			t.Errorf("Text(%v) = %q, %v; want %q, %v", c.l, s, e, c.want, c.e)
		}
	}
	// The text may be longer than Lexemes reads.
	many := slices.Repeat([]api.Lexeme{lexeme(1, "ab", 0)}, longest)
	if s := textOf(t, many); s != strings.TrimSuffix(strings.Repeat("ab ", longest), " ") {
		t.Errorf("Text of %d lexemes has %d bytes", len(many), len(s))
	}
}

// P4.4: Same.
func TestSame(t *testing.T) {
	l := []api.Lexeme{lexeme(1, "a", 0), lexeme(3, ";", 7)}
	for _, c := range []struct {
		a, b []api.Lexeme
		want bool
	}{
		{l, l, true},
		{l, []api.Lexeme{lexeme(1, "a", 5), lexeme(3, ";", -1)}, true},
		{l, []api.Lexeme{lexeme(3, ";", 7), lexeme(1, "a", 0)}, false},
		{l, []api.Lexeme{lexeme(1, "a", 0), lexeme(3, ",", 7)}, false},
		{l, []api.Lexeme{lexeme(1, "a", 0), lexeme(2, ";", 7)}, false},
		{l, []api.Lexeme{lexeme(1, "b", 0), lexeme(3, ";", 7)}, false},
		{l, l[:1], false},
		{l, l[1:], false},
		{l, nil, false},
		{l, append(slices.Clone(l), lexeme(3, ";", 8)), false},
		{nil, nil, true},
		{nil, []api.Lexeme{}, true},
		{l[:0], nil, true},
		// It asks for no more than that both are equal.
		{[]api.Lexeme{lexeme(0, "-", 0)}, []api.Lexeme{lexeme(0, "-", 3)}, true},
		{[]api.Lexeme{{}}, nil, false},
	} {
		if same := text.Same(c.a, c.b); same != c.want || text.Same(c.b, c.a) != c.want {
			t.Errorf("Same(%v, %v) = %v, want %v both ways", c.a, c.b, same, c.want)
		}
	}
}

// P4.5
func TestLexemesOfText(t *testing.T) {
	for _, l := range lists() {
		s := textOf(t, l)
		if len(s) > longest {
			continue
		}
		if got := lexemes(t, s); !text.Same(got, l) || len(got) != len(l) {
			t.Fatalf("the lexemes of %.60q are %s, want %s", s, brief(got), brief(l))
		}
	}
	// Any two lexemes, and each one alone.
	all := append(lexemes(t, "a Z9_ token 0 10 = | ; ,"), lexeme(1, strings.Repeat("x", 900), 0), lexeme(2, strings.Repeat("9", 900), 0))
	for _, x := range all {
		for _, y := range all {
			if l := []api.Lexeme{x, y}; !text.Same(lexemes(t, textOf(t, l)), l) {
				t.Errorf("the lexemes of the text of %s are others", brief(l))
			}
		}
	}
}

// P4.6
func TestLexemesStandInOrder(t *testing.T) {
	for _, s := range sound() {
		behind := 0
		for _, x := range lexemes(t, s) {
			if text.Check(x) != api.OK || x.At < behind || s[x.At:x.At+len(x.Text)] != x.Text {
				t.Fatalf("in %.60q: %s, behind %d", s, brief(x), behind)
			}
			if gap := s[behind:x.At]; between.FindString(gap) != gap {
				t.Fatalf("in %.60q: %.60q before %s", s, gap, brief(x))
			}
			behind = x.At + len(x.Text)
		}
		if gap := s[behind:]; between.FindString(gap) != gap {
			t.Fatalf("in %.60q: %.60q at the end", s, gap)
		}
	}
}

// P4.7
func TestRemarksAndBlanksChangeOnlyOffsets(t *testing.T) {
	r := rand.New(rand.NewSource(47))
	gaps := []string{" ", "\t", "\r", "\n", "# a ; 007 -\n", "#\n", " \r\n\t", "#é\xff#\r\n"}
	for _, s := range sound() {
		l := lexemes(t, s)
		var wide strings.Builder
		behind := 0
		for _, x := range l {
			// A remark ends where a line does: what is added goes behind the gap that stood there, not into it.
			wide.WriteString(s[behind:x.At] + gaps[r.Intn(len(gaps))] + x.Text)
			behind = x.At + len(x.Text)
		}
		wide.WriteString(gaps[r.Intn(len(gaps))] + s[behind:] + "# the end")
		if wide.Len() > longest {
			continue
		}
		if got := lexemes(t, wide.String()); !text.Same(got, l) {
			t.Fatalf("the lexemes of %.60q are %s, those of %.60q are %s", s, brief(l), wide.String(), brief(got))
		}
	}
}

// P4.8
func TestLexemesOfTwoTexts(t *testing.T) {
	l := sound()
	for i, a := range l[:400] {
		for _, b := range []string{l[(i*7+3)%len(l)], l[(i*31+11)%len(l)], a} {
			first := a + "\n"
			if len(first+b) > longest {
				continue
			}
			want := lexemes(t, first)
			for _, x := range lexemes(t, b) {
				want = append(want, lexeme(x.Kind, x.Text, x.At+len(first)))
			}
			if got := lexemes(t, first+b); !slices.Equal(got, want) {
				t.Fatalf("the lexemes of %.60q and %.60q are %s, want %s", first, b, brief(got), brief(want))
			}
		}
	}
}

// P4.9
func TestNextGoesThroughTheList(t *testing.T) {
	for _, s := range samples() {
		l, f := text.Lexemes(s)
		if f.Err != api.OK {
			continue
		}
		from := 0
		for i, want := range l {
			x, next, f := text.Next(s, from)
			if x != want || next != want.At+len(want.Text) || f != (api.Fault{}) {
				t.Fatalf("%.60q, lexeme %d: %s, %d, %v; want %s", s, i, brief(x), next, f, brief(want))
			}
			from = next
		}
		if x, next, f := text.Next(s, from); x != (api.Lexeme{}) || next != 0 || f != at(api.ErrShort, len(s)) {
			t.Fatalf("%.60q, behind the last lexeme: %v, %d, %v", s, x, next, f)
		}
	}
}

// R3: an error comes alone. P1: nothing panics, whatever the arguments are.
func TestErrorsComeAlone(t *testing.T) {
	for _, s := range append(samples(), strings.Repeat("a;", longest)) {
		for _, from := range []int{math.MinInt, -1, 0, 1, len(s) - 1, len(s), len(s) + 1, math.MaxInt} {
			if x, next, f := text.Next(s, from); f.Err != api.OK && (x != api.Lexeme{} || next != 0) || f.Err == api.OK && f.At != 0 {
				t.Fatalf("Next(%.60q, %d) = %s, %d, %v", s, from, brief(x), next, f)
			}
		}
		if l, f := text.Lexemes(s); f.Err != api.OK && len(l) != 0 || f.Err == api.OK && f.At != 0 {
			t.Fatalf("Lexemes(%.60q): %d lexemes, %v", s, len(l), f)
		}
	}
	good := lexeme(1, "a", 0)
	for _, x := range odd() {
		if n, e := text.Number(x, math.MinInt, math.MaxInt); e != api.OK && n != 0 {
			t.Fatalf("Number(%s) = %d, %v", brief(x), n, e)
		}
		s, e := text.Text([]api.Lexeme{good, x, good})
		if want := checkOf(x); e != want || e != api.OK && s != "" || e == api.OK && s != "a "+x.Text+" a" {
			t.Fatalf("Text with %s = %.60q, %v; want %v", brief(x), s, e, want)
		}
		if !text.Is(x, x.Kind, x.Text) || !text.Same([]api.Lexeme{x}, []api.Lexeme{x}) {
			t.Fatalf("%s is not the same as itself", brief(x))
		}
	}
}

// R4: arguments stay as they are, and no result is part of another one.
func TestNothingIsShared(t *testing.T) {
	s := "lookahead 2; # k\nS = a | ;"
	first, second := lexemes(t, s), lexemes(t, s)
	for i := range first {
		first[i] = lexeme(9, "x"+strconv.Itoa(i), -1)
	}
	if want, _ := lexemesOf(s); !slices.Equal(second, want) || !slices.Equal(lexemes(t, s), want) {
		t.Errorf("a change of one list changed another: %v", second)
	}
	// The places behind a list are not its own, and stay as they are.
	room := append(slices.Clone(second), lexeme(1, "behind", 0))
	l := room[:len(second):len(room)]
	other := slices.Clone(l)
	textOf(t, l)
	text.Same(l, other)
	text.Text(append(slices.Clone(l), lexeme(0, "", 0)))
	if !slices.Equal(l, second) || !slices.Equal(other, second) || room[len(second)] != lexeme(1, "behind", 0) {
		t.Errorf("the argument was changed: %v", room)
	}
}
