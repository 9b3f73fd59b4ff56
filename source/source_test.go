package source_test

import (
	"math"
	"math/rand"
	"reflect"
	"slices"
	"strconv"
	"strings"
	"testing"

	"stenotype/api"
	"stenotype/name"
	"stenotype/source"
	"stenotype/text"
)

const (
	// shownText is the text of the examples.
	shownText = "lookahead 2; token a, b; separator c; start S; S = a S | b | ;"
	// shownPrint is what is printed for it.
	shownPrint = "lookahead 2;\ntoken a, b;\nseparator c;\nstart S;\nS = a S | b | ;\n"
	// head is a text up to the first rule.
	head = "lookahead 1; token a, b; separator z; start S; "
)

// shown returns the source of the examples.
func shown() api.Source {
	return api.Source{K: 2, Tokens: []string{"a", "b"}, Sep: "c", Start: "S", Rules: []api.SourceRule{{Name: "S", Alts: [][]string{{"a", "S"}, {"b"}, nil}}}}
}

// large returns the source that has as much of everything as a sound one may have.
func large() api.Source {
	x := api.Source{K: 4, Sep: "separator_12", Start: "NONTERMINAL7"}
	for i := range 8 {
		x.Tokens = append(x.Tokens, "terminal___"+strconv.Itoa(i))
	}
	for i := range 8 {
		rule := api.SourceRule{Name: "NONTERMINAL" + strconv.Itoa(i)}
		for j := range 3 {
			rule.Alts = append(rule.Alts, slices.Repeat([]string{x.Tokens[(i+j)%8], "NONTERMINAL" + strconv.Itoa((i*j)%8)}, 3))
		}
		x.Rules = append(x.Rules, rule)
	}
	return x
}

// small returns the least source that is sound.
func small() api.Source {
	return api.Source{K: 1, Tokens: []string{"a"}, Sep: "z", Start: "S", Rules: []api.SourceRule{{Name: "S", Alts: [][]string{nil}}}}
}

// clone returns a source that is equal to x, in memory of its own.
func clone(x api.Source) api.Source {
	y := x
	y.Tokens = slices.Clone(x.Tokens)
	y.Rules = slices.Clone(x.Rules)
	for i := range y.Rules {
		y.Rules[i].Alts = slices.Clone(x.Rules[i].Alts)
		for j := range y.Rules[i].Alts {
			y.Rules[i].Alts[j] = slices.Clone(x.Rules[i].Alts[j])
		}
	}
	return y
}

// plain writes all that is in x, so that two sources are equal exactly if the same is written for them.
func plain(x api.Source) string {
	l := []string{strconv.Itoa(x.K), strconv.Quote(x.Sep), strconv.Quote(x.Start)}
	for _, s := range x.Tokens {
		l = append(l, strconv.Quote(s))
	}
	for _, rule := range x.Rules {
		l = append(l, "rule", strconv.Quote(rule.Name))
		for _, alt := range rule.Alts {
			l = append(l, "alt")
			for _, s := range alt {
				l = append(l, strconv.Quote(s))
			}
		}
	}
	return strings.Join(l, " ")
}

// isZero reports whether x is the zero value.
func isZero(x api.Source) bool {
	return reflect.DeepEqual(x, api.Source{})
}

// shortTexts are the texts of sound sources, but for those that are too long to be read.
func shortTexts(t *testing.T) []string {
	t.Helper()
	var l []string
	for _, x := range soundSources() {
		if s := mustPrint(t, x); len(s) <= api.MaxSource {
			l = append(l, s)
		}
	}
	if len(l) < 290 {
		t.Errorf("only %d texts are short enough", len(l))
	}
	return l
}

// mustParse returns the source of s, which is the text of one.
func mustParse(t *testing.T, s string) api.Source {
	t.Helper()
	x, f := source.Parse(s)
	if f != (api.Fault{}) {
		t.Fatalf("Parse(%q): %v", s, f)
	}
	return x
}

// mustPrint returns the text of x, which is sound.
func mustPrint(t *testing.T, x api.Source) string {
	t.Helper()
	s, e := source.Print(x)
	if e != api.OK {
		t.Fatalf("Print(%v): %v", x, e)
	}
	return s
}

// refused demands that Parse refuses s with this fault alone.
func refused(t *testing.T, s string, e api.Errno, at int) {
	t.Helper()
	if x, f := source.Parse(s); !isZero(x) || f != (api.Fault{Err: e, At: at}) {
		t.Errorf("Parse(%q): %v, %v at %d, not %v at %d", s, x, f.Err, f.At, e, at)
	}
}

// pick returns one of l at random.
func pick[T any](r *rand.Rand, l []T) T { return l[r.Intn(len(l))] }

// names returns n different names at random, that begin with one of the letters.
func names(r *rand.Rand, n int, letters string) []string {
	const others = "abzABZ019_"
	var l []string
	for len(l) < n {
		s := []byte{letters[r.Intn(len(letters))]}
		for range r.Intn(api.MaxName) {
			s = append(s, others[r.Intn(len(others))])
		}
		if !slices.Contains(l, string(s)) {
			l = append(l, string(s))
		}
	}
	return l
}

// sound returns a sound source at random.
func sound(r *rand.Rand) api.Source {
	terms, nonterms := 1+r.Intn(8), 1+r.Intn(8)
	small, capital := names(r, terms+1, "abcxyz"), names(r, nonterms, "ABCXYZ")
	x := api.Source{K: 1 + r.Intn(4), Tokens: small[:terms:terms], Sep: small[terms], Start: pick(r, capital)}
	right := slices.Concat(x.Tokens, capital)
	for i, s := range capital {
		rule := api.SourceRule{Name: s}
		room := 24 - (nonterms - i - 1)
		for _, other := range x.Rules {
			room -= len(other.Alts)
		}
		for range 1 + r.Intn(min(room, []int{2, 4, 24}[r.Intn(3)])) {
			var alt []string
			for range r.Intn(7) {
				alt = append(alt, pick(r, right))
			}
			rule.Alts = append(rule.Alts, alt)
		}
		x.Rules = append(x.Rules, rule)
	}
	return x
}

// soundSources are sources that are sound: the given ones, and some at random.
func soundSources() []api.Source {
	l := []api.Source{shown(), large(), small()}
	r := rand.New(rand.NewSource(8))
	for range 300 {
		l = append(l, sound(r))
	}
	return l
}

// machine reads a source lexeme by lexeme: the second way of reading, with a state that says what may stand next.
type machine struct {
	state  string
	x      api.Source
	uses   []api.Lexeme
	alts   int
	wanted map[string]string
}

// need returns what must be true of the lexeme x in this state, in the order of P8.1, and the state behind it.
func (m *machine) need(x api.Lexeme) ([]bool, string) {
	word, sign := x.Kind == api.LexWord, x.Kind == api.LexSign
	declared := slices.Concat(m.x.Tokens, []string{m.x.Sep})
	var rules []string
	for _, rule := range m.x.Rules {
		rules = append(rules, rule.Name)
	}
	switch m.state {
	case "lookahead", "token", "separator", "start":
		return []bool{word && x.Text == m.state, true, true, true}, m.wanted[m.state]
	case "number":
		return []bool{x.Kind == api.LexNumber, true, true, true}, "; of number"
	case "; of number", "; of separator", "; of start":
		return []bool{sign && x.Text == ";", true, true, true}, m.wanted[m.state]
	case "a token":
		return []bool{word, name.Small(x.Text), !slices.Contains(declared, x.Text), len(m.x.Tokens) < 8}, "behind a token"
	case "behind a token":
		return []bool{sign && (x.Text == "," || x.Text == ";"), true, true, true}, map[string]string{",": "a token", ";": "separator"}[x.Text]
	case "the separator":
		return []bool{word, name.Small(x.Text), !slices.Contains(declared, x.Text), true}, "; of separator"
	case "the start":
		return []bool{word, name.Capital(x.Text), true, true}, "; of start"
	case "a rule":
		return []bool{word, name.Capital(x.Text), !slices.Contains(rules, x.Text), len(m.x.Rules) < 8}, "="
	case "=":
		return []bool{sign && x.Text == "=", true, true, m.alts < 24}, "in a rule"
	}
	if sign {
		return []bool{x.Text == "|" || x.Text == ";", true, true, x.Text == ";" || m.alts < 24}, map[string]string{"|": "in a rule", ";": "a rule"}[x.Text]
	}
	return []bool{word, name.Check(x.Text) == api.OK, true, len(m.alt()) < 6}, "in a rule"
}

// alt returns the alternative that is being read.
func (m *machine) alt() []string {
	alts := m.x.Rules[len(m.x.Rules)-1].Alts
	return alts[len(alts)-1]
}

// take takes what is needed of the lexeme x into the source.
func (m *machine) take(x api.Lexeme) {
	switch m.state {
	case "number":
		m.x.K = int(x.Text[0] - '0')
	case "a token":
		m.x.Tokens = append(m.x.Tokens, x.Text)
	case "the separator":
		m.x.Sep = x.Text
	case "the start":
		m.x.Start = x.Text
		m.uses = append(m.uses, x)
	case "a rule":
		m.x.Rules = append(m.x.Rules, api.SourceRule{Name: x.Text})
	case "=", "in a rule":
		rule := &m.x.Rules[len(m.x.Rules)-1]
		if x.Kind == api.LexWord {
			rule.Alts[len(rule.Alts)-1] = append(m.alt(), x.Text)
			m.uses = append(m.uses, x)
		} else if x.Text != ";" {
			rule.Alts = append(rule.Alts, nil)
			m.alts++
		}
	}
}

// wantParse returns the source and the fault of s, by the words of P8.1 and P8.2.
func wantParse(s string) (api.Source, api.Fault) {
	l, f := text.Lexemes(s)
	if f.Err != api.OK {
		return api.Source{}, f
	}
	m := machine{state: "lookahead", wanted: map[string]string{"lookahead": "number", "; of number": "token", "token": "a token", "separator": "the separator", "; of separator": "start", "start": "the start", "; of start": "a rule"}}
	for _, x := range l {
		rights, next := m.need(x)
		for i, e := range []api.Errno{api.ErrForm, api.ErrName, api.ErrExists, api.ErrFull} {
			if !rights[i] {
				return api.Source{}, api.Fault{Err: e, At: x.At}
			}
		}
		if m.state == "number" && !slices.Contains([]string{"1", "2", "3", "4"}, x.Text) {
			return api.Source{}, api.Fault{Err: api.ErrRange, At: x.At}
		}
		m.take(x)
		m.state = next
	}
	if m.state != "a rule" || len(m.x.Rules) == 0 {
		return api.Source{}, api.Fault{Err: api.ErrShort, At: len(s)}
	}
	for _, x := range m.uses {
		isRule := slices.ContainsFunc(m.x.Rules, func(rule api.SourceRule) bool { return rule.Name == x.Text })
		if x.Text == m.x.Sep {
			return api.Source{}, api.Fault{Err: api.ErrSymbol, At: x.At}
		}
		if !isRule && !slices.Contains(m.x.Tokens, x.Text) {
			return api.Source{}, api.Fault{Err: api.ErrMissing, At: x.At}
		}
	}
	return m.x, api.Fault{}
}

// errorsOf returns all errors that x has, by the words of P8.3.
func errorsOf(x api.Source) map[api.Errno]bool {
	e := map[api.Errno]bool{}
	e[api.ErrRange] = !slices.Contains([]int{1, 2, 3, 4}, x.K)
	e[api.ErrShort] = len(x.Tokens) == 0 || len(x.Rules) == 0
	e[api.ErrFull] = len(x.Tokens) > 8 || len(x.Rules) > 8
	e[api.ErrName] = !name.Small(x.Sep) || !name.Capital(x.Start)
	e[api.ErrMissing] = true
	there := map[string]int{x.Sep: 1}
	for _, s := range x.Tokens {
		there[s]++
		e[api.ErrName] = e[api.ErrName] || !name.Small(s)
	}
	alts := 0
	for _, rule := range x.Rules {
		there[rule.Name]++
		alts += len(rule.Alts)
		e[api.ErrName] = e[api.ErrName] || !name.Capital(rule.Name)
		e[api.ErrShort] = e[api.ErrShort] || len(rule.Alts) == 0
		e[api.ErrMissing] = e[api.ErrMissing] && rule.Name != x.Start
	}
	e[api.ErrFull] = e[api.ErrFull] || alts > 24
	for _, n := range there {
		e[api.ErrExists] = e[api.ErrExists] || n > 1
	}
	for _, rule := range x.Rules {
		for _, alt := range rule.Alts {
			e[api.ErrFull] = e[api.ErrFull] || len(alt) > 6
			for _, s := range alt {
				e[api.ErrName] = e[api.ErrName] || name.Check(s) != api.OK
				e[api.ErrSymbol] = e[api.ErrSymbol] || s == x.Sep
				e[api.ErrMissing] = e[api.ErrMissing] || there[s] == 0
			}
		}
	}
	return e
}

// wantCheck returns the error of x that comes first.
func wantCheck(x api.Source) api.Errno {
	there := errorsOf(x)
	for _, e := range []api.Errno{api.ErrRange, api.ErrShort, api.ErrFull, api.ErrName, api.ErrExists, api.ErrSymbol, api.ErrMissing} {
		if there[e] {
			return e
		}
	}
	return api.OK
}

// checked demands that Check, and the functions that return its error, say e of x.
func checked(t *testing.T, x api.Source, e api.Errno) {
	t.Helper()
	if got := source.Check(x); got != e {
		t.Errorf("Check(%s): %v, not %v", plain(x), got, e)
	}
	s, e1 := source.Print(x)
	a, b, c, d, e2 := source.Size(x)
	l, e3 := source.Words(x)
	if e1 != e || e2 != e || e3 != e {
		t.Errorf("%s: Print %v, Size %v, Words %v, not %v", plain(x), e1, e2, e3, e)
	}
	if e != api.OK && (s != "" || a != 0 || b != 0 || c != 0 || d != 0 || len(l) != 0) {
		t.Errorf("%s: %q %d %d %d %d %v with the error %v", plain(x), s, a, b, c, d, l, e)
	}
}

// P8.1, P8.2, with the first row of the examples, and texts of other forms.
func TestParse(t *testing.T) {
	six := []string{"a", "b", "a", "b", "a", "b"}
	for s, want := range map[string]api.Source{
		shownText:  shown(),
		shownPrint: shown(),
		"lookahead 1;token a;separator z;start S;S=;":                                                       small(),
		"\tlookahead\r\n1 ; token a ;#;\nseparator z;#\n#\nstart S;S=;#end":                                 small(),
		"lookahead 3;token tokens,s;separator a;start B;A=B;B=|A;":                                          {K: 3, Tokens: []string{"tokens", "s"}, Sep: "a", Start: "B", Rules: []api.SourceRule{{Name: "A", Alts: [][]string{{"B"}}}, {Name: "B", Alts: [][]string{{}, {"A"}}}}},
		head + "S = a b a b a b | S S S S S S;":                                                             {K: 1, Tokens: []string{"a", "b"}, Sep: "z", Start: "S", Rules: []api.SourceRule{{Name: "S", Alts: [][]string{six, slices.Repeat([]string{"S"}, 6)}}}},
		"lookahead 4; token abcdefghijkl; separator starts; start Token; Token = | abcdefghijkl | | Token;": {K: 4, Tokens: []string{"abcdefghijkl"}, Sep: "starts", Start: "Token", Rules: []api.SourceRule{{Name: "Token", Alts: [][]string{{}, {"abcdefghijkl"}, {}, {"Token"}}}}},
		head + "S = a | a | S S | S S;":                                                                     {K: 1, Tokens: []string{"a", "b"}, Sep: "z", Start: "S", Rules: []api.SourceRule{{Name: "S", Alts: [][]string{{"a"}, {"a"}, {"S", "S"}, {"S", "S"}}}}},
	} {
		x, f := source.Parse(s)
		if plain(x) != plain(want) || f != (api.Fault{}) {
			t.Errorf("Parse(%q): %s, %v", s, plain(x), f)
		}
	}
}

// P8.1, P8.2, with the rows of the examples that are refused.
func TestParseOfTheExamples(t *testing.T) {
	refused(t, "", api.ErrShort, 0)
	refused(t, "lookahead 5;", api.ErrRange, 10)
	refused(t, "lookahead 02;", api.ErrForm, 10)
	refused(t, "token a;", api.ErrForm, 0)
	refused(t, "lookahead 1; token a; separator b; start S;", api.ErrShort, 43)
	change := func(old, new string) string {
		s := strings.Replace(shownText, old, new, 1)
		if s == shownText {
			t.Fatalf("%q is not in the text", old)
		}
		return s
	}
	refused(t, change("token a, b", "token A, b"), api.ErrName, 19)
	refused(t, change("token a, b", "token a, a"), api.ErrExists, 22)
	refused(t, change("separator c", "separator a"), api.ErrExists, 35)
	refused(t, change("start S", "start T"), api.ErrMissing, 44)
	refused(t, change("S = a S", "S = a c"), api.ErrSymbol, 53)
	refused(t, change("S = a S", "S = d"), api.ErrMissing, 51)
	refused(t, change("S = a S", "S = a S b b b b b"), api.ErrFull, 63)
}

// P8.1: the fault of Lexemes comes before all others.
func TestFaultsOfLexemes(t *testing.T) {
	refused(t, "?", api.ErrForm, 0)
	refused(t, "token a; ?", api.ErrForm, 9)
	refused(t, "lookahead 9; token A; _", api.ErrForm, 22)
	refused(t, head+"S = 07;", api.ErrForm, len(head)+4)
	refused(t, head+"S = 7a;", api.ErrForm, len(head)+4)
	refused(t, shownText+"\x00", api.ErrForm, len(shownText))
	full := shownText + strings.Repeat(" ", api.MaxSource-len(shownText))
	if x := mustParse(t, full); plain(x) != plain(shown()) {
		t.Error(plain(x))
	}
	refused(t, full+" ", api.ErrLong, 2000)
	refused(t, strings.Repeat("?", 2001), api.ErrLong, 2000)
	refused(t, strings.Repeat(" ", 2000), api.ErrShort, 2000)
}

// P8.1: ErrForm for each lexeme that cannot stand where it does.
func TestLexemesOutOfPlace(t *testing.T) {
	l, _ := text.Lexemes(shownText)
	others := []api.Lexeme{{Kind: api.LexWord, Text: "a"}, {Kind: api.LexWord, Text: "S"}, {Kind: api.LexWord, Text: "lookahead"}, {Kind: api.LexWord, Text: "token"}, {Kind: api.LexWord, Text: "separator"}, {Kind: api.LexWord, Text: "start"}, {Kind: api.LexNumber, Text: "1"}, {Kind: api.LexSign, Text: ","}, {Kind: api.LexSign, Text: ";"}, {Kind: api.LexSign, Text: "="}, {Kind: api.LexSign, Text: "|"}}
	forms := 0
	for i := range len(l) + 1 {
		for _, other := range others {
			for _, n := range []int{0, 1} {
				if i+n > len(l) {
					continue
				}
				s, _ := text.Text(slices.Concat(l[:i], []api.Lexeme{other}, l[i+n:]))
				forms += held(t, s)
			}
		}
	}
	if forms < 300 {
		t.Errorf("only %d texts with ErrForm", forms)
	}
}

// held demands that Parse says of s what the words of the chapter say; it returns 1 if that is ErrForm.
func held(t *testing.T, s string) int {
	t.Helper()
	want, wantFault := wantParse(s)
	x, f := source.Parse(s)
	if f != wantFault || plain(x) != plain(want) || f.Err != api.OK && !isZero(x) {
		t.Errorf("Parse(%q): %s, %v at %d, not %s, %v at %d", s, plain(x), f.Err, f.At, plain(want), wantFault.Err, wantFault.At)
	}
	if f.Err == api.ErrForm {
		return 1
	}
	return 0
}

// P8.1: where the lexemes end too early, ErrShort stands at the length of the text.
func TestTextsThatAreCutOff(t *testing.T) {
	l, _ := text.Lexemes(shownText)
	for i := range l {
		s, _ := text.Text(l[:i])
		refused(t, s, api.ErrShort, len(s))
		refused(t, s+" # remark", api.ErrShort, len(s)+9)
	}
	refused(t, shownText+"T", api.ErrShort, len(shownText)+1)
	refused(t, shownText+"T = ", api.ErrShort, len(shownText)+4)
	// A fault at a lexeme comes before the end; what is looked at at the end comes behind it.
	refused(t, shownText+"T = 1", api.ErrForm, len(shownText)+4)
	refused(t, head+"T = d z", api.ErrShort, len(head)+7)
}

// P8.1: ErrRange for a lookahead.
func TestLookaheads(t *testing.T) {
	for k := range 12 {
		s := strings.Replace(shownText, "2", strconv.Itoa(k), 1)
		if k < 1 || k > 4 {
			refused(t, s, api.ErrRange, 10)
		} else if x := mustParse(t, s); x.K != k {
			t.Errorf("K is %d, not %d", x.K, k)
		}
	}
	for _, n := range []string{"10", "40", "9223372036854775807", "9223372036854775808", "18446744073709551617", strings.Repeat("1", 1900)} {
		refused(t, "lookahead "+n+";", api.ErrRange, 10)
	}
	refused(t, "lookahead 5", api.ErrRange, 10)
	refused(t, "lookahead 1", api.ErrShort, 11)
	refused(t, "lookahead x", api.ErrForm, 10)
}

// P8.1: ErrName for words that are no names of the right kind.
func TestNamesInTexts(t *testing.T) {
	long := strings.Repeat("a", 13)
	for _, s := range []string{"A", "token", "lookahead", "separator", "start", long, "S"} {
		refused(t, "lookahead 1; token "+s, api.ErrName, 19)
		refused(t, "lookahead 1; token a, "+s, api.ErrName, 22)
		refused(t, "lookahead 1; token a; separator "+s, api.ErrName, 32)
	}
	for _, s := range []string{"a", "token", "lookahead", "separator", "start", long, "z", "A" + long, "x"} {
		refused(t, "lookahead 1; token a; separator z; start "+s, api.ErrName, 41)
		refused(t, head+s, api.ErrName, len(head))
		refused(t, head+"S = ; "+s, api.ErrName, len(head)+6)
	}
	for _, s := range []string{"token", "lookahead", "separator", "start", long, "A" + long[1:] + "a"} {
		refused(t, head+"S = "+s, api.ErrName, len(head)+4)
		refused(t, head+"S = a | a b "+s+" c", api.ErrName, len(head)+12)
	}
}

// P8.1: ErrExists for names that stood there already.
func TestNamesThatExist(t *testing.T) {
	for _, s := range []string{"a", "b", "c", "d", "e", "f", "g"} {
		refused(t, "lookahead 1; token a, b, c, d, e, f, g, "+s, api.ErrExists, 40)
		refused(t, "lookahead 1; token a, b, c, d, e, f, g; separator "+s, api.ErrExists, 50)
		capital := strings.ToUpper(s)
		refused(t, head+"A = ; B = ; C = ; D = ; E = ; F = ; G = ; "+capital, api.ErrExists, len(head)+42)
	}
	// Names of rules may differ from those of tokens in the size of their letters alone, and references are no declarations.
	x := mustParse(t, "lookahead 1; token a; separator b; start A; A = B B a; B = a A B;")
	if len(x.Rules) != 2 {
		t.Error(plain(x))
	}
}

// P8.1: ErrFull for what is too much.
func TestTooMuchInTexts(t *testing.T) {
	eight := "lookahead 1; token a, b, c, d, e, f, g, h"
	refused(t, eight+", i", api.ErrFull, 43)
	refused(t, eight+", i;", api.ErrFull, 43)
	if x := mustParse(t, eight+"; separator i; start S; S = ;"); len(x.Tokens) != 8 {
		t.Error(plain(x))
	}
	rules := head
	for _, s := range []string{"S", "A", "B", "C", "D", "E", "F", "G"} {
		rules += s + " = | | ; "
	}
	if x := mustParse(t, rules); len(x.Rules) != 8 {
		t.Error(plain(x))
	}
	refused(t, rules+"H", api.ErrFull, len(rules))
	refused(t, rules+"H = ;", api.ErrFull, len(rules))
	alts := head + "S = " + strings.Repeat("| ", 22)
	if x := mustParse(t, alts+"| a;"); len(x.Rules[0].Alts) != 24 {
		t.Error(plain(x))
	}
	refused(t, alts+"| a | b;", api.ErrFull, len(alts)+4)
	refused(t, alts+"| a; T = ;", api.ErrFull, len(alts)+7)
	refused(t, alts+"; T = |", api.ErrFull, len(alts)+6)
	refused(t, alts+"; T = a b", api.ErrShort, len(alts)+9)
	refused(t, alts+"; T a", api.ErrForm, len(alts)+4)
	if x := mustParse(t, alts+"; T = ;"); len(x.Rules) != 2 {
		t.Error(plain(x))
	}
	if x := mustParse(t, head+"S = a b a b a b | a b a b a b;"); len(x.Rules[0].Alts[1]) != 6 {
		t.Error(plain(x))
	}
	refused(t, head+"S = a b a b a b | a b a b a b a;", api.ErrFull, len(head)+30)
	refused(t, head+"S = x x x x x x x", api.ErrFull, len(head)+16)
}

// R1, P8.1: of one lexeme ErrForm comes first, then ErrName, ErrExists, ErrFull.
func TestOrderOfFaults(t *testing.T) {
	eight := "lookahead 1; token a, b, c, d, e, f, g, h, "
	refused(t, eight+"1", api.ErrForm, 43)
	refused(t, eight+"A", api.ErrName, 43)
	refused(t, eight+"a", api.ErrExists, 43)
	refused(t, eight+"i", api.ErrFull, 43)
	rules := head + "A=;B=;C=;D=;E=;F=;G=;H=;"
	refused(t, rules+"=", api.ErrForm, len(rules))
	refused(t, rules+"a", api.ErrName, len(rules))
	refused(t, rules+"A", api.ErrExists, len(rules))
	refused(t, rules+"I", api.ErrFull, len(rules))
	six := head + "S = a a a a a a "
	refused(t, six+"1", api.ErrForm, len(six))
	refused(t, six+"token", api.ErrName, len(six))
	refused(t, six+"z", api.ErrFull, len(six))
	alts := head + "S =" + strings.Repeat("|", 23)
	refused(t, alts+";T;", api.ErrForm, len(alts)+2)
	refused(t, alts+";S=", api.ErrExists, len(alts)+1)
	refused(t, alts+";T=", api.ErrFull, len(alts)+2)
	refused(t, alts+",", api.ErrForm, len(alts))
}

// P8.2: what can be said only behind the whole text, in its order.
func TestMissingNames(t *testing.T) {
	n := len(head)
	refused(t, head+"T = x | z;", api.ErrMissing, n-3)
	refused(t, head+"S = x | z;", api.ErrMissing, n+4)
	refused(t, head+"S = z | x;", api.ErrSymbol, n+4)
	refused(t, head+"S = a X;", api.ErrMissing, n+6)
	refused(t, head+"S = a A; A = b B;", api.ErrMissing, n+15)
	refused(t, head+"A = x; S = ;", api.ErrMissing, n+4)
	refused(t, head+"A = S; S = A; B = b z;", api.ErrSymbol, n+20)
	// A fault at a lexeme comes first, wherever it stands.
	refused(t, head+"T = x; T = ;", api.ErrExists, n+7)
	refused(t, head+"S = z; T = a a a a a a a", api.ErrFull, n+23)
	if x := mustParse(t, head+"A = B; B = S; S = A B S a b;"); len(x.Rules) != 3 {
		t.Error(plain(x))
	}
}

// broken returns the text s with some of its lexemes changed, at random.
func broken(r *rand.Rand, s string) string {
	l, _ := text.Lexemes(s)
	for range 1 + r.Intn(2) {
		i := r.Intn(len(l))
		if len(l) > 1 && r.Intn(10) == 0 {
			// The number would seldom be met otherwise.
			i = 1
		}
		switch r.Intn(6) {
		case 0:
			l = slices.Delete(l, i, i+1)
		case 1:
			l = slices.Insert(l, i, l[r.Intn(len(l))])
		case 2:
			l[i] = pick(r, l)
		case 3:
			l[i].Kind, l[i].Text = api.LexWord, pick(r, []string{"a", "S", "Q", "q", "start", "token", "abcdefghijklm"})
		case 4:
			l[i].Kind, l[i].Text = api.LexNumber, pick(r, []string{"0", "1", "4", "5", "12"})
		case 5:
			l = l[:i+1]
		}
	}
	s, _ = text.Text(l)
	return s
}

// P8.1, P8.2, held against the words of the chapter.
func TestParseAtRandom(t *testing.T) {
	r := rand.New(rand.NewSource(81))
	count := map[api.Errno]int{}
	for _, s := range shortTexts(t) {
		held(t, s)
		for range 40 {
			b := broken(r, s)
			held(t, b)
			_, f := source.Parse(b)
			count[f.Err]++
		}
		for range 10 {
			b := []byte(s)
			b[r.Intn(len(b))] = pick(r, []byte("aA1 ;,=|#_?\n"))
			held(t, string(b))
		}
	}
	for _, e := range []api.Errno{api.OK, api.ErrRange, api.ErrForm, api.ErrShort, api.ErrFull, api.ErrMissing, api.ErrExists, api.ErrName, api.ErrSymbol} {
		if count[e] < 15 {
			t.Errorf("only %d texts with %v", count[e], e)
		}
	}
}

// changes are changes of the source of the examples, and what Check says then.
func changes() []change {
	return []change{
		{"nothing", func(x *api.Source) {}, api.OK},
		{"K 0", func(x *api.Source) { x.K = 0 }, api.ErrRange},
		{"K 1", func(x *api.Source) { x.K = 1 }, api.OK},
		{"K 4", func(x *api.Source) { x.K = 4 }, api.OK},
		{"K 5", func(x *api.Source) { x.K = 5 }, api.ErrRange},
		{"K least", func(x *api.Source) { x.K = math.MinInt }, api.ErrRange},
		{"K greatest", func(x *api.Source) { x.K = math.MaxInt }, api.ErrRange},
		{"no tokens", func(x *api.Source) { x.Tokens = nil }, api.ErrShort},
		{"no rules", func(x *api.Source) { x.Rules = nil }, api.ErrShort},
		{"no alternatives", func(x *api.Source) { x.Rules[0].Alts = nil }, api.ErrShort},
		{"no alternatives of the second rule", func(x *api.Source) { x.Rules = append(x.Rules, api.SourceRule{Name: "T"}) }, api.ErrShort},
		{"eight tokens", func(x *api.Source) { x.Tokens = strings.Split("a b d e f g h i", " ") }, api.OK},
		{"nine tokens", func(x *api.Source) { x.Tokens = strings.Split("a b d e f g h i j", " ") }, api.ErrFull},
		{"eight rules", func(x *api.Source) { addRules(x, 7) }, api.OK},
		{"nine rules", func(x *api.Source) { addRules(x, 8) }, api.ErrFull},
		{"24 alternatives", func(x *api.Source) { x.Rules[0].Alts = make([][]string, 24) }, api.OK},
		{"25 alternatives", func(x *api.Source) { x.Rules[0].Alts = make([][]string, 25) }, api.ErrFull},
		{"24 alternatives of two rules", func(x *api.Source) { addRules(x, 1); x.Rules[1].Alts = make([][]string, 21) }, api.OK},
		{"25 alternatives of two rules", func(x *api.Source) { addRules(x, 1); x.Rules[1].Alts = make([][]string, 22) }, api.ErrFull},
		{"six names", func(x *api.Source) { x.Rules[0].Alts[2] = slices.Repeat([]string{"a", "S"}, 3) }, api.OK},
		{"seven names", func(x *api.Source) { x.Rules[0].Alts[2] = slices.Repeat([]string{"a"}, 7) }, api.ErrFull},
		{"seven names in the second rule", func(x *api.Source) { addRules(x, 1); x.Rules[1].Alts[0] = slices.Repeat([]string{"a"}, 7) }, api.ErrFull},
		{"a capital token", func(x *api.Source) { x.Tokens[1] = "B" }, api.ErrName},
		{"an empty token", func(x *api.Source) { x.Tokens[0] = "" }, api.ErrName},
		{"a long token", func(x *api.Source) { x.Tokens[0] = "abcdefghijklm" }, api.ErrName},
		{"a token of the language", func(x *api.Source) { x.Tokens[0] = "token" }, api.ErrName},
		{"an empty separator", func(x *api.Source) { x.Sep = "" }, api.ErrName},
		{"a capital separator", func(x *api.Source) { x.Sep = "C" }, api.ErrName},
		{"an empty start", func(x *api.Source) { x.Start = "" }, api.ErrName},
		{"a small start", func(x *api.Source) { x.Start = "a" }, api.ErrName},
		{"a small rule", func(x *api.Source) { x.Rules[0].Name = "s" }, api.ErrName},
		{"a rule with a blank", func(x *api.Source) { x.Rules[0].Name = "S " }, api.ErrName},
		{"an empty name in an alternative", func(x *api.Source) { x.Rules[0].Alts[1][0] = "" }, api.ErrName},
		{"a word of the language in an alternative", func(x *api.Source) { x.Rules[0].Alts[1][0] = "start" }, api.ErrName},
		{"a sign in an alternative", func(x *api.Source) { x.Rules[0].Alts[0][1] = "|" }, api.ErrName},
		{"a token twice", func(x *api.Source) { x.Tokens[1] = "a" }, api.ErrExists},
		{"a separator that is a token", func(x *api.Source) { x.Sep = "b" }, api.ErrExists},
		{"a rule twice", func(x *api.Source) { x.Rules = append(x.Rules, x.Rules[0]) }, api.ErrExists},
		{"the separator in an alternative", func(x *api.Source) { x.Rules[0].Alts[0][0] = "c" }, api.ErrSymbol},
		{"a start that is no rule", func(x *api.Source) { x.Start = "T" }, api.ErrMissing},
		{"a name that is no token", func(x *api.Source) { x.Rules[0].Alts[0][0] = "d" }, api.ErrMissing},
		{"a name that is no rule", func(x *api.Source) { x.Rules[0].Alts[0][0] = "T" }, api.ErrMissing},
	}
}

// change is a change of a source, and the error that it makes.
type change struct {
	what  string
	apply func(x *api.Source)
	err   api.Errno
}

// addRules adds n rules with one alternative each.
func addRules(x *api.Source, n int) {
	for i := range n {
		x.Rules = append(x.Rules, api.SourceRule{Name: "T" + strconv.Itoa(i), Alts: [][]string{{"a", "S"}}})
	}
}

// P8.3: each error by itself.
func TestCheck(t *testing.T) {
	for _, c := range changes() {
		x := shown()
		c.apply(&x)
		if e := wantCheck(x); e != c.err {
			t.Errorf("%s: the words say %v, not %v", c.what, e, c.err)
		}
		checked(t, x, c.err)
	}
	for _, x := range soundSources() {
		checked(t, x, api.OK)
	}
	checked(t, api.Source{}, api.ErrRange)
	checked(t, api.Source{K: 1}, api.ErrShort)
}

// bothApplied returns the source of the examples with both changes, and whether they go together.
func bothApplied(c, d change) (x api.Source, together bool) {
	defer func() {
		// The second change may need what the first one took away.
		together = recover() == nil
	}()
	x = shown()
	addRules(&x, 1)
	c.apply(&x)
	d.apply(&x)
	return x, true
}

// R1, P8.3: each error is looked for in the whole source before the next one.
func TestOrderOfErrors(t *testing.T) {
	others := 0
	for _, c := range changes() {
		for _, d := range changes() {
			x, together := bothApplied(c, d)
			if !together {
				continue
			}
			want := wantCheck(x)
			checked(t, x, want)
			if c.err != api.OK && want != api.OK && want != c.err {
				others++
			}
		}
	}
	if others < 300 {
		t.Errorf("only %d pairs with another error than the first change's", others)
	}
}

// P8.3: the order of errors, one pair behind the other.
func TestErrorsOneByOne(t *testing.T) {
	x := shown()
	x.Rules = append(x.Rules, api.SourceRule{Name: "S", Alts: [][]string{{"d"}, {"c"}, {"1"}, slices.Repeat([]string{"a"}, 7)}}, api.SourceRule{Name: "T"})
	x.K = 7
	checked(t, x, api.ErrRange)
	x.K = 2
	checked(t, x, api.ErrShort)
	x.Rules[2].Alts = [][]string{nil}
	checked(t, x, api.ErrFull)
	x.Rules[1].Alts = x.Rules[1].Alts[:3]
	checked(t, x, api.ErrName)
	x.Rules[1].Alts = x.Rules[1].Alts[:2]
	checked(t, x, api.ErrExists)
	x.Rules[1].Name = "U"
	checked(t, x, api.ErrSymbol)
	x.Rules[1].Alts = x.Rules[1].Alts[:1]
	checked(t, x, api.ErrMissing)
	x.Rules[1].Alts[0][0] = "a"
	checked(t, x, api.OK)
	x.Start, x.Rules[1].Alts[0][0] = "V", "c"
	checked(t, x, api.ErrSymbol)
	x.Rules[1].Alts[0][0] = "a"
	checked(t, x, api.ErrMissing)
}

// P8.3, held against the words of the chapter.
func TestCheckAtRandom(t *testing.T) {
	r := rand.New(rand.NewSource(83))
	count := map[api.Errno]int{}
	words := []string{"", "a", "b", "c", "S", "T", "start", "q", "Q", "1"}
	for range 20000 {
		x := shown()
		addRules(&x, r.Intn(3))
		for range 1 + r.Intn(3) {
			rule := &x.Rules[r.Intn(len(x.Rules))]
			switch r.Intn(10) {
			case 0:
				x.K = r.Intn(7)
			case 1:
				x.Tokens[r.Intn(2)] = pick(r, words)
			case 2:
				x.Sep = pick(r, words)
			case 3:
				x.Start = pick(r, words)
			case 4:
				rule.Name = pick(r, words)
			case 5:
				rule.Alts = make([][]string, pick(r, []int{0, 1, 20, 24, 25}))
			case 6:
				rule.Alts = append(rule.Alts, slices.Repeat([]string{pick(r, words)}, r.Intn(9)))
			default:
				rule.Alts = append(rule.Alts, []string{"a", pick(r, words), "b"})
			}
		}
		want := wantCheck(x)
		checked(t, x, want)
		count[want]++
	}
	for _, e := range []api.Errno{api.OK, api.ErrRange, api.ErrShort, api.ErrFull, api.ErrMissing, api.ErrExists, api.ErrName, api.ErrSymbol} {
		if count[e] < 200 {
			t.Errorf("only %d sources with %v", count[e], e)
		}
	}
}

// wantPrint is the text of x, by the words of the section Terms.
func wantPrint(x api.Source) string {
	lines := []string{"lookahead " + strconv.Itoa(x.K) + ";", "token " + strings.Join(x.Tokens, ", ") + ";", "separator " + x.Sep + ";", "start " + x.Start + ";"}
	for _, rule := range x.Rules {
		parts := []string{rule.Name, "="}
		for i, alt := range rule.Alts {
			if i > 0 {
				parts = append(parts, "|")
			}
			parts = append(parts, alt...)
		}
		lines = append(lines, strings.Join(append(parts, ";"), " "))
	}
	return strings.Join(lines, "\n") + "\n"
}

// P8.4, with the row of the examples.
func TestPrint(t *testing.T) {
	if s := mustPrint(t, shown()); s != shownPrint {
		t.Errorf("%q", s)
	}
	if s := mustPrint(t, small()); s != "lookahead 1;\ntoken a;\nseparator z;\nstart S;\nS = ;\n" {
		t.Errorf("%q", s)
	}
	x := small()
	x.Rules = []api.SourceRule{{Name: "T", Alts: [][]string{nil, {"a", "T"}, nil, nil}}, {Name: "S", Alts: [][]string{{"T"}}}}
	if s := mustPrint(t, x); s != "lookahead 1;\ntoken a;\nseparator z;\nstart S;\nT = | a T | | ;\nS = T ;\n" {
		t.Errorf("%q", s)
	}
	for _, x := range soundSources() {
		if s := mustPrint(t, x); s != wantPrint(x) {
			t.Errorf("%q, not %q", s, wantPrint(x))
		}
	}
}

// P8.4: a text may have more bytes than Parse takes.
func TestPrintOfLongTexts(t *testing.T) {
	s := mustPrint(t, large())
	if len(s) <= api.MaxSource || s != wantPrint(large()) {
		t.Errorf("%d bytes: %q", len(s), s)
	}
	refused(t, s, api.ErrLong, api.MaxSource)
}

// P8.4, with the row of the examples.
func TestSizeAndWords(t *testing.T) {
	size := func(x api.Source, want [4]int) {
		t.Helper()
		a, b, c, d, e := source.Size(x)
		if [4]int{a, b, c, d} != want || e != api.OK {
			t.Errorf("%s: %d %d %d %d %v, not %v", plain(x), a, b, c, d, e, want)
		}
	}
	size(shown(), [4]int{2, 1, 3, 3})
	size(small(), [4]int{1, 1, 1, 0})
	size(large(), [4]int{8, 8, 24, 144})
	if l, e := source.Words(shown()); !slices.Equal(l, []string{"a", "b", "c", "S"}) || e != api.OK {
		t.Error(l, e)
	}
	for _, x := range soundSources() {
		want := [4]int{len(x.Tokens), len(x.Rules)}
		words := append(slices.Clone(x.Tokens), x.Sep)
		for _, rule := range x.Rules {
			words = append(words, rule.Name)
			want[2] += len(rule.Alts)
			for _, alt := range rule.Alts {
				want[3] += len(alt)
			}
		}
		size(x, want)
		if l, e := source.Words(x); !slices.Equal(l, words) || e != api.OK {
			t.Errorf("%v %v, not %v", l, e, words)
		}
	}
}

// P8.4: Same tells sources apart that differ in one place, sound or not.
func TestSame(t *testing.T) {
	l := []api.Source{{}, {K: 1}, {Sep: "a"}, {Start: "a"}, {Tokens: []string{""}}, {Tokens: []string{"", ""}}, {Rules: make([]api.SourceRule, 1)}, {Rules: make([]api.SourceRule, 2)}, {Rules: []api.SourceRule{{Alts: make([][]string, 1)}}}, {Rules: []api.SourceRule{{Alts: [][]string{{""}}}}}}
	for _, c := range changes() {
		x := shown()
		c.apply(&x)
		l = append(l, x)
	}
	l = append(l, soundSources()[:60]...)
	for _, a := range l {
		for _, b := range l {
			if got, want := source.Same(a, clone(b)), plain(a) == plain(b); got != want {
				t.Errorf("Same of %s and %s: %v", plain(a), plain(b), got)
			}
		}
	}
}

// P8.5: Parse of Print is the source.
func TestPrintedSourcesAreReadBack(t *testing.T) {
	long := 0
	for _, x := range soundSources() {
		s := mustPrint(t, x)
		if len(s) > api.MaxSource {
			long++
			continue
		}
		if y := mustParse(t, s); !source.Same(x, y) || plain(x) != plain(y) {
			t.Errorf("%s is read back as %s", plain(x), plain(y))
		}
	}
	if long > 10 {
		t.Errorf("%d texts are too long", long)
	}
}

// P8.6: what Parse reads is sound, and Print of it is read as the same.
func TestWhatIsReadIsSound(t *testing.T) {
	r := rand.New(rand.NewSource(86))
	read := 0
	for _, s := range shortTexts(t) {
		for range 20 {
			y, f := source.Parse(broken(r, s))
			if f.Err != api.OK {
				continue
			}
			read++
			if e := source.Check(y); e != api.OK {
				t.Fatalf("%s: %v", plain(y), e)
			}
			if z := mustParse(t, mustPrint(t, y)); !source.Same(y, z) {
				t.Errorf("%s is read back as %s", plain(y), plain(z))
			}
		}
	}
	if read < 300 {
		t.Errorf("only %d texts are read", read)
	}
}

// spread returns the lexemes with remarks and blanks between them, and where each lexeme stands.
func spread(r *rand.Rand, l []api.Lexeme) (string, []int) {
	var s string
	var at []int
	for i, x := range l {
		gaps := []string{" ", "\n", "\t \r\n", "#\n", " # ; S = a ?\n", "#token q\n#\n"}
		if i == 0 || x.Kind == api.LexSign || l[i-1].Kind == api.LexSign {
			gaps = append(gaps, "", "", "")
		}
		s += pick(r, gaps)
		at = append(at, len(s))
		s += x.Text
	}
	return s + pick(r, []string{"", " ", "# end"}), at
}

// P8.7: remarks and blanks change nothing but offsets.
func TestRemarksAndBlanks(t *testing.T) {
	r := rand.New(rand.NewSource(87))
	faults := 0
	for _, whole := range shortTexts(t) {
		for _, s := range []string{whole, broken(r, whole), broken(r, whole)} {
			l, _ := text.Lexemes(s)
			moved, at := spread(r, l)
			if len(moved) > api.MaxSource {
				continue
			}
			y, f := source.Parse(s)
			z, g := source.Parse(moved)
			i := slices.IndexFunc(l, func(x api.Lexeme) bool { return x.At == f.At })
			switch {
			case f.Err == api.OK:
				if g != (api.Fault{}) || !source.Same(y, z) {
					t.Errorf("%q: %v", moved, g)
				}
			case f.At == len(s):
				faults++
				if g != (api.Fault{Err: f.Err, At: len(moved)}) {
					t.Errorf("%q: %v, not %v at the length", moved, g, f.Err)
				}
			default:
				faults++
				if g != (api.Fault{Err: f.Err, At: at[i]}) {
					t.Errorf("%q: %v, not %v at %d", moved, g, f.Err, at[i])
				}
			}
		}
	}
	if faults < 200 {
		t.Errorf("only %d faults", faults)
	}
}

// P8.8: two sound sources have the same text exactly if they are equal.
func TestTextsTellSourcesApart(t *testing.T) {
	l := soundSources()[:80]
	for _, c := range changes() {
		if c.err == api.OK {
			x := shown()
			c.apply(&x)
			l = append(l, x)
		}
	}
	for _, a := range l {
		for _, b := range l {
			if (mustPrint(t, a) == mustPrint(t, b)) != source.Same(a, b) {
				t.Errorf("%s and %s", plain(a), plain(b))
			}
		}
	}
}

// P8.9: a text that is cut off before its last ; is refused.
func TestTextsWithoutTheirEnd(t *testing.T) {
	for _, x := range soundSources() {
		s := mustPrint(t, x)
		if len(s) > api.MaxSource {
			continue
		}
		cut := s[:strings.LastIndex(s, ";")]
		refused(t, cut, api.ErrShort, len(cut))
		// Without the whole last rule the text is refused, too, if that one is reached.
		rules := s[:strings.LastIndex(s[:len(s)-1], "\n")]
		if _, f := source.Parse(rules); len(x.Rules) > 1 && (f.Err == api.OK) == mentioned(x, x.Rules[len(x.Rules)-1].Name) {
			t.Errorf("Parse(%q): %v", rules, f)
		}
	}
}

// mentioned reports whether x has the name s as its start, or in an alternative of a rule before the last one.
func mentioned(x api.Source, s string) bool {
	for _, rule := range x.Rules[:len(x.Rules)-1] {
		for _, alt := range rule.Alts {
			if slices.Contains(alt, s) {
				return true
			}
		}
	}
	return x.Start == s
}

// use calls all functions that take sources.
func use(x api.Source) {
	source.Check(x)
	source.Print(x)
	source.Same(x, x)
	source.Size(x)
	source.Words(x)
}

// R4: arguments stay as they are, and so does the room behind their slices.
func TestArgumentsStay(t *testing.T) {
	for _, c := range changes() {
		x := shown()
		c.apply(&x)
		if len(x.Tokens) == 0 || len(x.Rules) == 0 || len(x.Rules[0].Alts) == 0 {
			continue
		}
		tokens := append(slices.Clone(x.Tokens), "room", "room")
		rules := append(slices.Clone(x.Rules), api.SourceRule{Name: "room"}, api.SourceRule{Name: "room"})
		alts := append(slices.Clone(x.Rules[0].Alts), []string{"room"}, []string{"room"})
		alt := append(slices.Clone(alts[0]), "room", "room")
		x.Tokens, x.Rules = tokens[:len(tokens)-2], rules[:len(rules)-2]
		x.Rules[0].Alts = alts[:len(alts)-2]
		x.Rules[0].Alts[0] = alt[:len(alt)-2]
		whole := api.Source{Tokens: tokens, Rules: append([]api.SourceRule{{Name: "first", Alts: append(alts, alt)}}, rules...)}
		before := plain(whole)
		use(x)
		if after := plain(whole); after != before {
			t.Errorf("%s: %s became %s", c.what, before, after)
		}
	}
}

// R4: results share no memory with arguments or other results.
func TestNothingIsShared(t *testing.T) {
	x := mustParse(t, shownText)
	y := mustParse(t, shownText)
	for i := range x.Tokens {
		x.Tokens[i] = "changed"
	}
	_ = append(x.Rules[0].Alts[0], "changed")
	_ = append(x.Rules[0].Alts[1], "changed")
	x.Rules[0].Alts[0][0], x.Rules[0].Alts[1][0] = "changed", "changed"
	x.Rules[0].Alts[2] = []string{"changed"}
	x.Rules[0].Name = "changed"
	if plain(y) != plain(shown()) || plain(mustParse(t, shownText)) != plain(shown()) {
		t.Error(plain(y))
	}
	for _, alts := range [][][]string{y.Rules[0].Alts} {
		for i := range alts {
			_ = append(alts[i], "changed")
		}
	}
	if plain(y) != plain(shown()) {
		t.Error(plain(y))
	}
	z := shown()
	z.Tokens = append(z.Tokens, "room")[:2]
	l, _ := source.Words(z)
	m, _ := source.Words(z)
	for i := range l {
		l[i] = "changed"
	}
	if plain(z) != plain(shown()) || z.Tokens[:3][2] != "room" || !slices.Equal(m, []string{"a", "b", "c", "S"}) {
		t.Error(plain(z), m)
	}
	z.Tokens[0] = "changed"
	if m[0] != "a" {
		t.Error(m)
	}
}

// R4: a nil slice and an empty one are equal.
func TestNilAndEmpty(t *testing.T) {
	empty := api.Source{Tokens: []string{}, Rules: []api.SourceRule{}}
	if !source.Same(api.Source{}, empty) || !source.Same(empty, api.Source{}) {
		t.Error("Same of empty sources")
	}
	a, b := shown(), shown()
	b.Rules[0].Alts[2] = []string{}
	if !source.Same(a, b) || !source.Same(b, a) || mustPrint(t, a) != mustPrint(t, b) {
		t.Error("Same of sources with an empty alternative")
	}
	a.Rules[0].Alts, b.Rules[0].Alts = nil, [][]string{}
	if !source.Same(a, b) || source.Check(a) != api.ErrShort || source.Check(b) != api.ErrShort {
		t.Error("Same of sources without alternatives")
	}
	for _, l := range [][]string{nil, {}} {
		x := shown()
		x.Tokens = l
		checked(t, x, api.ErrShort)
	}
	for _, l := range [][]api.SourceRule{nil, {}} {
		x := shown()
		x.Rules = l
		checked(t, x, api.ErrShort)
	}
}

// P1, R5: no argument is too great or too strange.
func TestAllArgumentsAreTaken(t *testing.T) {
	for _, k := range []int{math.MinInt, -1, 0, 5, 1 << 32, 1<<32 + 2, math.MaxInt} {
		x := shown()
		x.K = k
		checked(t, x, api.ErrRange)
	}
	many := make([]string, 1<<20)
	long := strings.Repeat("a", 1<<20)
	for _, c := range []change{
		{"tokens", func(x *api.Source) { x.Tokens = many }, api.ErrFull},
		{"rules", func(x *api.Source) { x.Rules = slices.Repeat(x.Rules, 1<<16) }, api.ErrFull},
		{"rules without alternatives", func(x *api.Source) { x.Rules = make([]api.SourceRule, 1<<20) }, api.ErrShort},
		{"alternatives", func(x *api.Source) { x.Rules[0].Alts = make([][]string, 1<<20) }, api.ErrFull},
		{"names", func(x *api.Source) { x.Rules[0].Alts[0] = many }, api.ErrFull},
		{"a long token", func(x *api.Source) { x.Tokens[0] = long }, api.ErrName},
		{"a long separator", func(x *api.Source) { x.Sep = long }, api.ErrName},
		{"a long start", func(x *api.Source) { x.Start = long }, api.ErrName},
		{"a long rule", func(x *api.Source) { x.Rules[0].Name = long }, api.ErrName},
		{"a long name", func(x *api.Source) { x.Rules[0].Alts[0][0] = long }, api.ErrName},
		{"bytes that are no runes", func(x *api.Source) { x.Rules[0].Alts[0][0] = "a\xff" }, api.ErrName},
		{"a letter of another script", func(x *api.Source) { x.Rules[0].Name = "É" }, api.ErrName},
	} {
		x := shown()
		c.apply(&x)
		checked(t, x, c.err)
		if !source.Same(x, x) || source.Same(x, shown()) {
			t.Errorf("%s: Same", c.what)
		}
	}
	refused(t, long, api.ErrLong, api.MaxSource)
	for b := range 256 {
		s := string([]byte{byte(b)})
		for i := range len(shownText) + 1 {
			held(t, shownText[:i]+s+shownText[i:])
		}
	}
}
