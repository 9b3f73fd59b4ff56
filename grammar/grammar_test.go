package grammar_test

import (
	"math"
	"math/rand"
	"reflect"
	"slices"
	"strconv"
	"strings"
	"testing"

	"stenotype/api"
	"stenotype/grammar"
	"stenotype/name"
	"stenotype/source"
)

// shownText is the text of the grammar of the examples, as it is printed.
const shownText = "lookahead 2;\ntoken a, b;\nseparator nl;\nstart S;\nS = a T | ;\nT = b S ;\n"

// strange are numbers that no grammar has as symbols or productions.
var strange = []int{math.MinInt, math.MinInt + 1, math.MinInt + 16, -16, -1, 24, 25, 40, 1 << 32, 1<<32 + 16, math.MaxInt - 16, math.MaxInt}

// shown returns the grammar of the examples.
func shown() api.Grammar {
	return api.Grammar{K: 2, Tokens: []string{"a", "b"}, Sep: "nl", Names: []string{"S", "T"}, Start: 16, Prods: []api.Prod{{Left: 16, Right: []int{0, 17}}, {Left: 16}, {Left: 17, Right: []int{1, 16}}}}
}

// small returns the least grammar that is valid.
func small() api.Grammar {
	return api.Grammar{K: 1, Tokens: []string{"a"}, Sep: "z", Names: []string{"S"}, Start: 16, Prods: []api.Prod{{Left: 16}}}
}

// large returns a grammar that has as much of everything as a valid one may have.
func large() api.Grammar {
	g := api.Grammar{K: 4, Sep: "separator_12", Start: 23}
	for i := range 8 {
		g.Tokens = append(g.Tokens, "terminal___"+strconv.Itoa(i))
		g.Names = append(g.Names, "NONTERMINAL"+strconv.Itoa(i))
		for j := range 3 {
			g.Prods = append(g.Prods, api.Prod{Left: 16 + i, Right: slices.Repeat([]int{(i + j) % 8, 16 + i*j%8}, 3)})
		}
	}
	return g
}

// clone returns a grammar that is equal to g, in memory of its own.
func clone(g api.Grammar) api.Grammar {
	h := g
	h.Tokens, h.Names, h.Prods = slices.Clone(g.Tokens), slices.Clone(g.Names), slices.Clone(g.Prods)
	for i := range h.Prods {
		h.Prods[i].Right = slices.Clone(g.Prods[i].Right)
	}
	return h
}

// plain writes all that is in g, so that two grammars are equal exactly if the same is written for them.
func plain(g api.Grammar) string {
	l := []string{strconv.Itoa(g.K)}
	for _, s := range g.Tokens {
		l = append(l, strconv.Quote(s))
	}
	l = append(l, "sep", strconv.Quote(g.Sep), "names")
	for _, s := range g.Names {
		l = append(l, strconv.Quote(s))
	}
	l = append(l, "start", strconv.Itoa(g.Start))
	for _, prod := range g.Prods {
		l = append(l, "prod", strconv.Itoa(prod.Left), ":")
		for _, symbol := range prod.Right {
			l = append(l, strconv.Itoa(symbol))
		}
	}
	return strings.Join(l, " ")
}

// isZero reports whether x is the zero value of its type.
func isZero[T any](x T) bool {
	return reflect.ValueOf(&x).Elem().IsZero()
}

// pick returns one of l at random.
func pick[T any](r *rand.Rand, l []T) T { return l[r.Intn(len(l))] }

// names returns n different names at random that begin with one of the letters.
func names(r *rand.Rand, n int, letters string) []string {
	var l []string
	for len(l) < n {
		s := []byte{letters[r.Intn(len(letters))]}
		for range r.Intn(api.MaxName) {
			s = append(s, "abzABZ019_"[r.Intn(10)])
		}
		if !slices.Contains(l, string(s)) {
			l = append(l, string(s))
		}
	}
	return l
}

// valid returns a valid grammar at random.
func valid(r *rand.Rand) api.Grammar {
	terms, nonterms := 1+r.Intn(8), 1+r.Intn(8)
	words := names(r, terms+1, "abcxyz")
	g := api.Grammar{K: 1 + r.Intn(4), Tokens: words[:terms:terms], Sep: words[terms], Names: names(r, nonterms, "ABCXYZ"), Start: 16 + r.Intn(nonterms)}
	var symbols, lefts []int
	for i := range terms {
		symbols = append(symbols, i)
	}
	for i := range nonterms {
		symbols, lefts = append(symbols, 16+i), append(lefts, 16+i)
	}
	for range r.Intn(25 - nonterms) {
		lefts = append(lefts, 16+r.Intn(nonterms))
	}
	slices.Sort(lefts)
	for _, left := range lefts {
		prod := api.Prod{Left: left}
		for range r.Intn(7) {
			prod.Right = append(prod.Right, pick(r, symbols))
		}
		g.Prods = append(g.Prods, prod)
	}
	return g
}

// validGrammars are grammars that are valid: the given ones, and some at random.
func validGrammars() []api.Grammar {
	l := []api.Grammar{shown(), small(), large()}
	r := rand.New(rand.NewSource(9))
	for range 300 {
		l = append(l, valid(r))
	}
	return l
}

// mustSource returns the source of g, which is valid.
func mustSource(t *testing.T, g api.Grammar) api.Source {
	t.Helper()
	x, e := grammar.Source(g)
	if e != api.OK {
		t.Fatalf("Source(%s): %v", plain(g), e)
	}
	return x
}

// mustOf returns the grammar of x, which is sound.
func mustOf(t *testing.T, x api.Source) api.Grammar {
	t.Helper()
	g, e := grammar.Of(x)
	if e != api.OK {
		t.Fatalf("Of(%v): %v", x, e)
	}
	return g
}

// mustText returns the text of g, which is valid.
func mustText(t *testing.T, g api.Grammar) string {
	t.Helper()
	s, e := grammar.Text(g)
	if e != api.OK {
		t.Fatalf("Text(%s): %v", plain(g), e)
	}
	return s
}

// errorsOf returns all errors that g has, by the words of P9.1.
func errorsOf(g api.Grammar) map[api.Errno]bool {
	e := map[api.Errno]bool{}
	e[api.ErrRange] = !slices.Contains([]int{1, 2, 3, 4}, g.K)
	e[api.ErrFull] = len(g.Tokens) > 8 || len(g.Names) > 8 || len(g.Prods) > 24
	e[api.ErrShort] = len(g.Tokens) == 0 || len(g.Names) == 0
	there, nonterms := map[string]int{g.Sep: 1}, map[int]bool{}
	e[api.ErrName] = !name.Small(g.Sep)
	for _, s := range g.Tokens {
		there[s]++
		e[api.ErrName] = e[api.ErrName] || !name.Small(s)
	}
	capital := map[string]int{}
	for i, s := range g.Names {
		capital[s]++
		nonterms[16+i] = true
		e[api.ErrName] = e[api.ErrName] || !name.Capital(s)
	}
	for _, counts := range []map[string]int{there, capital} {
		for _, n := range counts {
			e[api.ErrExists] = e[api.ErrExists] || n > 1
		}
	}
	e[api.ErrSymbol] = !nonterms[g.Start]
	begun := map[int]bool{}
	for i, prod := range g.Prods {
		e[api.ErrSymbol] = e[api.ErrSymbol] || !nonterms[prod.Left]
		e[api.ErrFull] = e[api.ErrFull] || len(prod.Right) > 6
		e[api.ErrOrder] = e[api.ErrOrder] || i > 0 && g.Prods[i-1].Left > prod.Left
		begun[prod.Left] = true
		for _, symbol := range prod.Right {
			e[api.ErrSymbol] = e[api.ErrSymbol] || !nonterms[symbol] && (symbol < 0 || symbol >= len(g.Tokens))
		}
	}
	for symbol := range nonterms {
		e[api.ErrMissing] = e[api.ErrMissing] || !begun[symbol]
	}
	return e
}

// wantCheck returns what Check says of g, by the words of P9.1.
func wantCheck(g api.Grammar) api.Errno {
	has := errorsOf(g)
	for _, e := range []api.Errno{api.ErrRange, api.ErrFull, api.ErrShort, api.ErrName, api.ErrExists, api.ErrSymbol, api.ErrOrder, api.ErrMissing} {
		if has[e] {
			return e
		}
	}
	return api.OK
}

// checked demands that Check says e of g, and, if this is an error, that all others return it, and nothing else, whatever they are asked for.
func checked(t *testing.T, g api.Grammar, e api.Errno) {
	t.Helper()
	if got := grammar.Check(g); got != e {
		t.Fatalf("Check(%s): %v, not %v", plain(g), got, e)
	}
	if e == api.OK {
		return
	}
	alone := func(what string, zero bool, got api.Errno) {
		t.Helper()
		if !zero || got != e {
			t.Errorf("%s of %s: %v, not %v, or something with it", what, plain(g), got, e)
		}
	}
	x, got := grammar.Source(g)
	alone("Source", isZero(x), got)
	s, got := grammar.Text(g)
	alone("Text", s == "", got)
	for _, n := range []int{-1, 0, 1, 2, 16, 17, 24} {
		symbol, got := grammar.Nonterm(g, n)
		alone("Nonterm", symbol == 0, got)
		l, got := grammar.Prods(g, n)
		alone("Prods", len(l) == 0, got)
		s, got := grammar.Name(g, n)
		alone("Name", s == "", got)
		s, got = grammar.Show(g, n)
		alone("Show", s == "", got)
	}
	for _, s := range []string{"a", "b", "S", "T", "nl", "", "d"} {
		n, got := grammar.Symbol(g, s)
		alone("Symbol", n == 0, got)
	}
}

// change is a change of a grammar, and the error that it makes.
type change struct {
	what  string
	apply func(g *api.Grammar)
	err   api.Errno
}

// listChanges are changes of the grammar of the examples in K and in its lists, and what Check says then.
func listChanges() []change {
	return []change{
		{"nothing", func(g *api.Grammar) {}, api.OK},
		{"K 0", func(g *api.Grammar) { g.K = 0 }, api.ErrRange},
		{"K 1", func(g *api.Grammar) { g.K = 1 }, api.OK},
		{"K 4", func(g *api.Grammar) { g.K = 4 }, api.OK},
		{"K 5", func(g *api.Grammar) { g.K = 5 }, api.ErrRange},
		{"K -1", func(g *api.Grammar) { g.K = -1 }, api.ErrRange},
		{"eight tokens", func(g *api.Grammar) { g.Tokens = strings.Split("a b c d e f g h", " ") }, api.OK},
		{"nine tokens", func(g *api.Grammar) { g.Tokens = strings.Split("a b c d e f g h i", " ") }, api.ErrFull},
		{"eight names", func(g *api.Grammar) { addNonterms(g, 6) }, api.OK},
		{"nine names", func(g *api.Grammar) { addNonterms(g, 7) }, api.ErrFull},
		{"24 productions", func(g *api.Grammar) { addProds(g, 21) }, api.OK},
		{"25 productions", func(g *api.Grammar) { addProds(g, 22) }, api.ErrFull},
		{"six symbols", func(g *api.Grammar) { g.Prods[1].Right = []int{0, 1, 16, 17, 0, 1} }, api.OK},
		{"seven symbols", func(g *api.Grammar) { g.Prods[1].Right = []int{0, 1, 16, 17, 0, 1, 16} }, api.ErrFull},
		{"seven symbols in the first production", func(g *api.Grammar) { g.Prods[0].Right = make([]int, 7) }, api.ErrFull},
		{"seven symbols in the last production", func(g *api.Grammar) { g.Prods[len(g.Prods)-1].Right = make([]int, 7) }, api.ErrFull},
		{"no tokens", func(g *api.Grammar) { g.Tokens = nil }, api.ErrShort},
		{"no names", func(g *api.Grammar) { g.Names = nil }, api.ErrShort},
		{"one token", func(g *api.Grammar) { g.Tokens, g.Prods[2].Right = g.Tokens[:1], nil }, api.OK},
	}
}

// nameChanges are changes of the grammar of the examples in its names, and what Check says then.
func nameChanges() []change {
	return []change{
		{"a capital token", func(g *api.Grammar) { g.Tokens[1] = "B" }, api.ErrName},
		{"an empty token", func(g *api.Grammar) { g.Tokens[0] = "" }, api.ErrName},
		{"a long token", func(g *api.Grammar) { g.Tokens[0] = "abcdefghijklm" }, api.ErrName},
		{"a token with twelve bytes", func(g *api.Grammar) { g.Tokens[0] = "abcdefghijkl" }, api.OK},
		{"a token of the language", func(g *api.Grammar) { g.Tokens[0] = "separator" }, api.ErrName},
		{"a token with a sign", func(g *api.Grammar) { g.Tokens[0] = "a;" }, api.ErrName},
		{"an empty separator", func(g *api.Grammar) { g.Sep = "" }, api.ErrName},
		{"a capital separator", func(g *api.Grammar) { g.Sep = "C" }, api.ErrName},
		{"a separator of the language", func(g *api.Grammar) { g.Sep = "start" }, api.ErrName},
		{"an empty name", func(g *api.Grammar) { g.Names[0] = "" }, api.ErrName},
		{"a small name", func(g *api.Grammar) { g.Names[1] = "t" }, api.ErrName},
		{"a name with a blank", func(g *api.Grammar) { g.Names[1] = "T " }, api.ErrName},
		{"a long name", func(g *api.Grammar) { g.Names[1] = "ABCDEFGHIJKLM" }, api.ErrName},
		{"a name with a word of the language in it", func(g *api.Grammar) { g.Names[1] = "Token" }, api.OK},
		{"a token twice", func(g *api.Grammar) { g.Tokens[1] = "a" }, api.ErrExists},
		{"a separator that is the first token", func(g *api.Grammar) { g.Sep = "a" }, api.ErrExists},
		{"a separator that is the last token", func(g *api.Grammar) { g.Sep = "b" }, api.ErrExists},
		{"a name twice", func(g *api.Grammar) { g.Names[1] = "S" }, api.ErrExists},
		{"a token and a name that differ in their letter's size alone", func(g *api.Grammar) { g.Tokens[0] = "s" }, api.OK},
	}
}

// prodChanges are changes of the grammar of the examples in its start and its productions, and what Check says then.
func prodChanges() []change {
	return []change{
		{"the other start", func(g *api.Grammar) { g.Start = 17 }, api.OK},
		{"a start that is too great", func(g *api.Grammar) { g.Start = 24 }, api.ErrSymbol},
		{"a start that is too small", func(g *api.Grammar) { g.Start = 15 }, api.ErrSymbol},
		{"a start that is a terminal", func(g *api.Grammar) { g.Start = 0 }, api.ErrSymbol},
		{"a left side that is too great", func(g *api.Grammar) { g.Prods[len(g.Prods)-1].Left = 24 }, api.ErrSymbol},
		{"a left side that is too small", func(g *api.Grammar) { g.Prods[0].Left = 15 }, api.ErrSymbol},
		{"a left side that is a terminal", func(g *api.Grammar) { g.Prods[0].Left = 1 }, api.ErrSymbol},
		{"a right side with a terminal of none", func(g *api.Grammar) { g.Prods[0].Right[0] = 8 }, api.ErrSymbol},
		{"a right side with -1", func(g *api.Grammar) { g.Prods[0].Right[1] = -1 }, api.ErrSymbol},
		{"a right side with 15", func(g *api.Grammar) { g.Prods[2].Right[1] = 15 }, api.ErrSymbol},
		{"a right side with a nonterminal of none", func(g *api.Grammar) { g.Prods[2].Right[0] = 24 }, api.ErrSymbol},
		{"the last production first", func(g *api.Grammar) { g.Prods[0], g.Prods[2] = g.Prods[2], g.Prods[0] }, api.ErrOrder},
		{"the last two productions changed", func(g *api.Grammar) { g.Prods[1], g.Prods[2] = g.Prods[2], g.Prods[1] }, api.ErrOrder},
		{"the first two productions changed", func(g *api.Grammar) { g.Prods[0], g.Prods[1] = g.Prods[1], g.Prods[0] }, api.OK},
		{"a production twice", func(g *api.Grammar) { g.Prods[1] = g.Prods[0] }, api.OK},
		{"without the last production", func(g *api.Grammar) { g.Prods = g.Prods[:2] }, api.ErrMissing},
		{"without the first productions", func(g *api.Grammar) { g.Prods = g.Prods[2:] }, api.ErrMissing},
		{"without the first production", func(g *api.Grammar) { g.Prods = g.Prods[1:] }, api.OK},
		{"no productions", func(g *api.Grammar) { g.Prods = nil }, api.ErrMissing},
		{"a nonterminal without productions in the middle", func(g *api.Grammar) { addNonterms(g, 2); g.Prods = slices.Delete(g.Prods, 3, 4) }, api.ErrMissing},
	}
}

// changes are all changes of the grammar of the examples.
func changes() []change {
	return slices.Concat(listChanges(), nameChanges(), prodChanges())
}

// addNonterms adds n nonterminals with one production each.
func addNonterms(g *api.Grammar, n int) {
	for i := range n {
		g.Prods = append(g.Prods, api.Prod{Left: 16 + len(g.Names), Right: []int{0}})
		g.Names = append(g.Names, "U"+strconv.Itoa(i))
	}
}

// addProds adds n productions of the last nonterminal.
func addProds(g *api.Grammar, n int) {
	for range n {
		g.Prods = append(g.Prods, api.Prod{Left: 15 + len(g.Names)})
	}
}

// The rows of the examples.
func TestExamples(t *testing.T) {
	g := shown()
	checked(t, g, api.OK)
	hasNonterm(t, g, 17, 1, api.OK)
	hasNonterm(t, g, 1, 0, api.ErrSymbol)
	hasNonterm(t, g, 18, 0, api.ErrSymbol)
	hasProds(t, g, 16, []int{0, 1}, api.OK)
	hasProds(t, g, 17, []int{2}, api.OK)
	hasSymbol(t, g, "T", 17, api.OK)
	hasSymbol(t, g, "nl", 0, api.ErrMissing)
	hasName(t, g, 1, "b", api.OK)
	hasName(t, g, 2, "", api.ErrSymbol)
	shows(t, g, 0, "S = a T", api.OK)
	shows(t, g, 1, "S =", api.OK)
	shows(t, g, 3, "", api.ErrRange)
	for _, c := range []change{
		{"K 0", func(g *api.Grammar) { g.K = 0 }, api.ErrRange},
		{"no tokens", func(g *api.Grammar) { g.Tokens = nil }, api.ErrShort},
		{"a twice", func(g *api.Grammar) { g.Tokens[1] = "a" }, api.ErrExists},
		{"Sep a", func(g *api.Grammar) { g.Sep = "a" }, api.ErrExists},
		{"T named t", func(g *api.Grammar) { g.Names[1] = "t" }, api.ErrName},
		{"Start 18", func(g *api.Grammar) { g.Start = 18 }, api.ErrSymbol},
		{"Right 2", func(g *api.Grammar) { g.Prods[1].Right = []int{2} }, api.ErrSymbol},
		{"the last production first", func(g *api.Grammar) { g.Prods = []api.Prod{g.Prods[2], g.Prods[0], g.Prods[1]} }, api.ErrOrder},
		{"without the last one", func(g *api.Grammar) { g.Prods = g.Prods[:2] }, api.ErrMissing},
	} {
		g := shown()
		c.apply(&g)
		checked(t, g, c.err)
	}
}

// hasNonterm demands that Nonterm says this.
func hasNonterm(t *testing.T, g api.Grammar, symbol, want int, err api.Errno) {
	t.Helper()
	if n, e := grammar.Nonterm(g, symbol); n != want || e != err {
		t.Errorf("Nonterm(%s, %d): %d, %v, not %d, %v", plain(g), symbol, n, e, want, err)
	}
}

// hasProds demands that Prods says this.
func hasProds(t *testing.T, g api.Grammar, symbol int, want []int, err api.Errno) {
	t.Helper()
	if l, e := grammar.Prods(g, symbol); !slices.Equal(l, want) || e != err {
		t.Errorf("Prods(%s, %d): %v, %v, not %v, %v", plain(g), symbol, l, e, want, err)
	}
}

// hasSymbol demands that Symbol says this.
func hasSymbol(t *testing.T, g api.Grammar, s string, want int, err api.Errno) {
	t.Helper()
	if n, e := grammar.Symbol(g, s); n != want || e != err {
		t.Errorf("Symbol(%s, %q): %d, %v, not %d, %v", plain(g), s, n, e, want, err)
	}
}

// hasName demands that Name says this.
func hasName(t *testing.T, g api.Grammar, symbol int, want string, err api.Errno) {
	t.Helper()
	if s, e := grammar.Name(g, symbol); s != want || e != err {
		t.Errorf("Name(%s, %d): %q, %v, not %q, %v", plain(g), symbol, s, e, want, err)
	}
}

// shows demands that Show says this.
func shows(t *testing.T, g api.Grammar, p int, want string, err api.Errno) {
	t.Helper()
	if s, e := grammar.Show(g, p); s != want || e != err {
		t.Errorf("Show(%s, %d): %q, %v, not %q, %v", plain(g), p, s, e, want, err)
	}
}

// P9.1: each error by itself, and what is just allowed.
func TestCheck(t *testing.T) {
	for _, c := range changes() {
		g := shown()
		c.apply(&g)
		if e := wantCheck(g); e != c.err {
			t.Errorf("%s: the words say %v, not %v", c.what, e, c.err)
		}
		checked(t, g, c.err)
	}
	for _, g := range validGrammars() {
		checked(t, g, api.OK)
	}
	checked(t, api.Grammar{}, api.ErrRange)
	checked(t, api.Grammar{K: 1}, api.ErrShort)
}

// P9.1: symbols that are just there, and just not there, for each number of them.
func TestCheckOfSymbols(t *testing.T) {
	for terms := 1; terms <= 8; terms++ {
		for nonterms := 1; nonterms <= 8; nonterms++ {
			g := large()
			g.Tokens, g.Names, g.Prods, g.Start = g.Tokens[:terms], g.Names[:nonterms], nil, 16
			for i := range nonterms {
				g.Prods = append(g.Prods, api.Prod{Left: 16 + i})
			}
			for _, symbol := range slices.Concat(strange, []int{0, 1, terms - 1, terms, terms + 1, 7, 8, 15, 16, 15 + nonterms, 16 + nonterms}) {
				isNonterm := 16 <= symbol && symbol <= 15+nonterms
				isSymbol := isNonterm || 0 <= symbol && symbol <= terms-1
				want := map[bool]api.Errno{true: api.OK, false: api.ErrSymbol}
				h := clone(g)
				h.Prods[nonterms-1].Right = []int{0, symbol}
				checked(t, h, want[isSymbol])
				h = clone(g)
				h.Start = symbol
				checked(t, h, want[isNonterm])
				h = clone(g)
				h.Prods = append(h.Prods, api.Prod{Left: symbol})
				if isNonterm && symbol != 15+nonterms {
					checked(t, h, api.ErrOrder)
				} else {
					checked(t, h, want[isNonterm])
				}
			}
		}
	}
}

// bothApplied returns the grammar of the examples with both changes, and whether they go together.
func bothApplied(c, d change) (g api.Grammar, together bool) {
	defer func() {
		// The second change may need what the first one took away.
		together = recover() == nil
	}()
	g = shown()
	c.apply(&g)
	d.apply(&g)
	return g, true
}

// R1, P9.1: each error is looked for in the whole grammar before the next one.
func TestOrderOfErrors(t *testing.T) {
	order := []api.Errno{api.ErrRange, api.ErrFull, api.ErrShort, api.ErrName, api.ErrExists, api.ErrSymbol, api.ErrOrder, api.ErrMissing}
	first := map[[2]api.Errno]int{}
	for _, c := range changes() {
		for _, d := range changes() {
			g, together := bothApplied(c, d)
			if !together {
				continue
			}
			has, want := errorsOf(g), wantCheck(g)
			checked(t, g, want)
			for _, e := range order {
				if e != want && has[e] {
					first[[2]api.Errno{want, e}]++
				}
			}
		}
	}
	for i, e := range order {
		for _, later := range order[i+1:] {
			if first[[2]api.Errno{e, later}] == 0 {
				t.Errorf("no grammar with %v and %v", e, later)
			}
		}
	}
}

// P9.1: the order of errors, one pair behind the other.
func TestErrorsOneByOne(t *testing.T) {
	g := shown()
	g.K, g.Tokens, g.Sep, g.Names, g.Start = 5, nil, "Z", []string{"S", "S", "T", "U"}, 20
	g.Prods = []api.Prod{{Left: 17}, {Left: 16, Right: make([]int, 7)}, {Left: 18}}
	checked(t, g, api.ErrRange)
	g.K = 4
	checked(t, g, api.ErrFull)
	g.Prods[1].Right = []int{0, 17}
	checked(t, g, api.ErrShort)
	g.Tokens = []string{"a", "a"}
	checked(t, g, api.ErrName)
	g.Sep = "a"
	checked(t, g, api.ErrExists)
	g.Tokens[1] = "b"
	checked(t, g, api.ErrExists)
	g.Sep = "c"
	checked(t, g, api.ErrExists)
	g.Names[1] = "V"
	checked(t, g, api.ErrSymbol)
	g.Start = 19
	checked(t, g, api.ErrOrder)
	g.Prods[0].Left = 16
	checked(t, g, api.ErrMissing)
	g.Prods[1].Left = 17
	checked(t, g, api.ErrMissing)
	g.Prods = append(g.Prods, api.Prod{Left: 19})
	checked(t, g, api.OK)
}

// broken changes something of g at random.
func broken(r *rand.Rand, g *api.Grammar) {
	words := []string{"", "a", "b", "nl", "S", "T", "start", "q", "Q", "1"}
	symbols := []int{-1, 0, 1, 2, 7, 8, 15, 16, 17, 18, 23, 24}
	prod := &g.Prods[r.Intn(len(g.Prods))]
	switch r.Intn(11) {
	case 0:
		g.K = r.Intn(7)
	case 1:
		g.Tokens[r.Intn(len(g.Tokens))] = pick(r, words)
	case 2:
		g.Sep = pick(r, words)
	case 3:
		g.Names[r.Intn(len(g.Names))] = pick(r, words)
	case 4:
		g.Start = pick(r, symbols)
	case 5:
		prod.Left = pick(r, symbols)
	case 6:
		prod.Right = append(prod.Right, pick(r, symbols))
	case 7:
		prod.Right = make([]int, r.Intn(9))
	case 8:
		i, j := r.Intn(len(g.Prods)), r.Intn(len(g.Prods))
		g.Prods[i], g.Prods[j] = g.Prods[j], g.Prods[i]
	case 9:
		addNonterms(g, r.Intn(8))
	case 10:
		if i := r.Intn(len(g.Prods)); len(g.Prods) > 1 {
			g.Prods = slices.Delete(g.Prods, i, i+1)
		}
	}
}

// P9.1, held against the words of the chapter.
func TestCheckAtRandom(t *testing.T) {
	r := rand.New(rand.NewSource(91))
	count := map[api.Errno]int{}
	for range 10000 {
		g := shown()
		if r.Intn(3) == 0 {
			g = valid(r)
		}
		for range 1 + r.Intn(3) {
			broken(r, &g)
		}
		want := wantCheck(g)
		checked(t, g, want)
		count[want]++
	}
	for _, e := range []api.Errno{api.OK, api.ErrRange, api.ErrFull, api.ErrName, api.ErrExists, api.ErrSymbol, api.ErrOrder, api.ErrMissing} {
		if count[e] < 100 {
			t.Errorf("only %d grammars with %v", count[e], e)
		}
	}
}

// wantOf returns the grammar of x, by the words of the section Terms.
func wantOf(x api.Source) api.Grammar {
	g := api.Grammar{K: x.K, Tokens: slices.Clone(x.Tokens), Sep: x.Sep}
	for _, rule := range x.Rules {
		g.Names = append(g.Names, rule.Name)
	}
	g.Start = 16 + slices.Index(g.Names, x.Start)
	for i, rule := range x.Rules {
		for _, alt := range rule.Alts {
			prod := api.Prod{Left: 16 + i}
			for _, s := range alt {
				symbol := slices.Index(x.Tokens, s)
				if symbol < 0 {
					symbol = 16 + slices.Index(g.Names, s)
				}
				prod.Right = append(prod.Right, symbol)
			}
			g.Prods = append(g.Prods, prod)
		}
	}
	return g
}

// wantSource returns the source of g, by the words of the section Terms.
func wantSource(g api.Grammar) api.Source {
	symbols := map[int]string{}
	for i, s := range g.Tokens {
		symbols[i] = s
	}
	for i, s := range g.Names {
		symbols[16+i] = s
	}
	x := api.Source{K: g.K, Tokens: g.Tokens, Sep: g.Sep, Start: symbols[g.Start]}
	for i, s := range g.Names {
		rule := api.SourceRule{Name: s}
		for _, prod := range g.Prods {
			if prod.Left-16 != i {
				continue
			}
			var alt []string
			for _, symbol := range prod.Right {
				alt = append(alt, symbols[symbol])
			}
			rule.Alts = append(rule.Alts, alt)
		}
		x.Rules = append(x.Rules, rule)
	}
	return x
}

// P9.2: the grammar of a source.
func TestOf(t *testing.T) {
	x, f := source.Parse("lookahead 2; token a, b; separator nl; start S; S = a T | ; T = b S;")
	if g := mustOf(t, x); f != (api.Fault{}) || plain(g) != plain(shown()) {
		t.Errorf("%v, %s", f, plain(g))
	}
	x, f = source.Parse("lookahead 3; token b, a, c; separator d; start Z; Y = c Z a | Y b Y; X = | | a X X; Z = c;")
	want := api.Grammar{K: 3, Tokens: []string{"b", "a", "c"}, Sep: "d", Names: []string{"Y", "X", "Z"}, Start: 18, Prods: []api.Prod{{Left: 16, Right: []int{2, 18, 1}}, {Left: 16, Right: []int{16, 0, 16}}, {Left: 17}, {Left: 17}, {Left: 17, Right: []int{1, 17, 17}}, {Left: 18, Right: []int{2}}}}
	if g := mustOf(t, x); f != (api.Fault{}) || plain(g) != plain(want) {
		t.Errorf("%v, %s, not %s", f, plain(g), plain(want))
	}
	for _, g := range validGrammars() {
		x := wantSource(g)
		if h := mustOf(t, x); plain(h) != plain(wantOf(x)) {
			t.Errorf("%v: %s, not %s", x, plain(h), plain(wantOf(x)))
		}
	}
}

// P9.2, R3: a source that is not sound has no grammar.
func TestOfRefuses(t *testing.T) {
	for e, apply := range map[api.Errno]func(x *api.Source){
		api.ErrRange:   func(x *api.Source) { x.K = 0 },
		api.ErrShort:   func(x *api.Source) { x.Rules[1].Alts = nil },
		api.ErrFull:    func(x *api.Source) { x.Rules[0].Alts = make([][]string, 24) },
		api.ErrName:    func(x *api.Source) { x.Rules[1].Alts[0][0] = "token" },
		api.ErrExists:  func(x *api.Source) { x.Rules[1].Name = "S" },
		api.ErrSymbol:  func(x *api.Source) { x.Rules[1].Alts[0][1] = "nl" },
		api.ErrMissing: func(x *api.Source) { x.Start = "V" },
	} {
		x := mustSource(t, shown())
		apply(&x)
		if g, got := grammar.Of(x); got != e || got != source.Check(x) || !isZero(g) {
			t.Errorf("%v: %s, %v", e, plain(g), got)
		}
		x.K = 5
		if g, got := grammar.Of(x); got != api.ErrRange || !isZero(g) {
			t.Errorf("%v and K 5: %s, %v", e, plain(g), got)
		}
	}
	if g, e := grammar.Of(api.Source{}); e != api.ErrRange || !isZero(g) {
		t.Error(plain(g), e)
	}
	// The first error of a source is not that of a grammar: there too little comes before too much.
	if g, e := grammar.Of(api.Source{K: 1, Rules: make([]api.SourceRule, 9)}); e != api.ErrShort || !isZero(g) {
		t.Error(plain(g), e)
	}
}

// P9.2: the source of a grammar, and its text.
func TestSourceAndText(t *testing.T) {
	x := mustSource(t, shown())
	want := api.Source{K: 2, Tokens: []string{"a", "b"}, Sep: "nl", Start: "S", Rules: []api.SourceRule{{Name: "S", Alts: [][]string{{"a", "T"}, nil}}, {Name: "T", Alts: [][]string{{"b", "S"}}}}}
	if !source.Same(x, want) {
		t.Errorf("%v, not %v", x, want)
	}
	if s := mustText(t, shown()); s != shownText {
		t.Errorf("%q", s)
	}
	if s := mustText(t, small()); s != "lookahead 1;\ntoken a;\nseparator z;\nstart S;\nS = ;\n" {
		t.Errorf("%q", s)
	}
	for _, g := range validGrammars() {
		x, want := mustSource(t, g), wantSource(g)
		if !source.Same(x, want) || source.Check(x) != api.OK {
			t.Errorf("%s: %v, not %v", plain(g), x, want)
		}
		printed, e := source.Print(want)
		if s := mustText(t, g); s != printed || e != api.OK {
			t.Errorf("%s: %q, not %q, %v", plain(g), s, printed, e)
		}
	}
	if s := mustText(t, large()); len(s) <= api.MaxSource {
		t.Errorf("only %d bytes", len(s))
	}
}

// P9.3: what Nonterm, Prods and Name say of each number.
func TestSymbols(t *testing.T) {
	for _, g := range validGrammars() {
		for symbol := -3; symbol < 40; symbol++ {
			hasAllOf(t, g, symbol)
		}
		for _, symbol := range strange {
			hasAllOf(t, g, symbol)
		}
	}
}

// hasAllOf demands that Nonterm, Prods and Name say of symbol what the words of P9.3 say.
func hasAllOf(t *testing.T, g api.Grammar, symbol int) {
	t.Helper()
	for i, s := range g.Tokens {
		if symbol == i {
			hasName(t, g, symbol, s, api.OK)
			hasNonterm(t, g, symbol, 0, api.ErrSymbol)
			hasProds(t, g, symbol, nil, api.ErrSymbol)
			return
		}
	}
	for i, s := range g.Names {
		if symbol == 16+i {
			var prods []int
			for p, prod := range g.Prods {
				if prod.Left == symbol {
					prods = append(prods, p)
				}
			}
			hasName(t, g, symbol, s, api.OK)
			hasNonterm(t, g, symbol, i, api.OK)
			hasProds(t, g, symbol, prods, api.OK)
			return
		}
	}
	hasName(t, g, symbol, "", api.ErrSymbol)
	hasNonterm(t, g, symbol, 0, api.ErrSymbol)
	hasProds(t, g, symbol, nil, api.ErrSymbol)
}

// P9.3: Symbol finds the names of terminals and nonterminals, and no others.
func TestNames(t *testing.T) {
	for _, g := range validGrammars() {
		for i, s := range g.Tokens {
			hasSymbol(t, g, s, i, api.OK)
		}
		for i, s := range g.Names {
			hasSymbol(t, g, s, 16+i, api.OK)
		}
		for _, s := range []string{g.Sep, "", "token", "0", "16", g.Tokens[0] + " ", " " + g.Names[0], g.Names[0] + g.Names[0] + "0123456789ab", "\xff"} {
			hasSymbol(t, g, s, 0, api.ErrMissing)
		}
		for _, s := range []string{"a", "b", "z", "S", "s", "A", "Z", "nl", "NL"} {
			if !slices.Contains(g.Tokens, s) && !slices.Contains(g.Names, s) {
				hasSymbol(t, g, s, 0, api.ErrMissing)
			}
		}
	}
}

// P9.4: the texts of productions.
func TestShow(t *testing.T) {
	shows(t, shown(), 2, "T = b S", api.OK)
	shows(t, small(), 0, "S =", api.OK)
	shows(t, large(), 23, "NONTERMINAL7 = terminal___1 NONTERMINAL6 terminal___1 NONTERMINAL6 terminal___1 NONTERMINAL6", api.OK)
	for _, g := range validGrammars() {
		x := wantSource(g)
		p := 0
		for _, rule := range x.Rules {
			for _, alt := range rule.Alts {
				want := rule.Name + " ="
				for _, s := range alt {
					want += " " + s
				}
				shows(t, g, p, want, api.OK)
				p++
			}
		}
		for _, n := range append([]int{p, p + 1, -2, 26, 1 << 40}, strange...) {
			shows(t, g, n, "", api.ErrRange)
		}
	}
}

// differences are changes of the grammar of the examples that make another one of it, be it valid or not.
func differences() []func(g *api.Grammar) {
	return []func(g *api.Grammar){
		func(g *api.Grammar) { g.K++ },
		func(g *api.Grammar) { g.K = -1 },
		func(g *api.Grammar) { g.Tokens[0] = "c" },
		func(g *api.Grammar) { g.Tokens[1] = "" },
		func(g *api.Grammar) { g.Tokens[0], g.Tokens[1] = "b", "a" },
		func(g *api.Grammar) { g.Tokens = append(g.Tokens, "c") },
		func(g *api.Grammar) { g.Tokens = g.Tokens[:1] },
		func(g *api.Grammar) { g.Tokens = nil },
		func(g *api.Grammar) { g.Sep = "n" },
		func(g *api.Grammar) { g.Sep = "" },
		func(g *api.Grammar) { g.Names[0] = "U" },
		func(g *api.Grammar) { g.Names[1] = "t" },
		func(g *api.Grammar) { g.Names = append(g.Names, "U") },
		func(g *api.Grammar) { g.Names = nil },
		func(g *api.Grammar) { g.Start = 17 },
		func(g *api.Grammar) { g.Start = -1 },
		func(g *api.Grammar) { g.Prods[0].Left = 17 },
		func(g *api.Grammar) { g.Prods[2].Left = 16 },
		func(g *api.Grammar) { g.Prods[0].Right[0] = 1 },
		func(g *api.Grammar) { g.Prods[2].Right[1] = 99 },
		func(g *api.Grammar) { g.Prods[1].Right = []int{0} },
		func(g *api.Grammar) { g.Prods[0].Right = g.Prods[0].Right[:1] },
		func(g *api.Grammar) { g.Prods[0].Right = nil },
		func(g *api.Grammar) { g.Prods[0], g.Prods[1] = g.Prods[1], g.Prods[0] },
		func(g *api.Grammar) { g.Prods = append(g.Prods, api.Prod{Left: 17}) },
		func(g *api.Grammar) { g.Prods = g.Prods[:2] },
		func(g *api.Grammar) { g.Prods = nil },
	}
}

// P9.4: Same of grammars of whatever kind.
func TestSame(t *testing.T) {
	l := []api.Grammar{shown(), {}, small(), large()}
	for _, differ := range differences() {
		g := shown()
		differ(&g)
		l = append(l, g)
	}
	for i, a := range l {
		for j, b := range l {
			if same := grammar.Same(a, clone(b)); same != (i == j) {
				t.Errorf("Same(%s, %s): %v", plain(a), plain(b), same)
			}
		}
	}
}

// P9.4, R4: nil lists and empty ones are equal, in arguments and results.
func TestNilAndEmpty(t *testing.T) {
	none := api.Grammar{Tokens: []string{}, Names: []string{}, Prods: []api.Prod{}}
	if !grammar.Same(api.Grammar{}, none) || !grammar.Same(none, api.Grammar{}) {
		t.Error("Same of empty grammars")
	}
	g := shown()
	g.Prods[1].Right = []int{}
	if !grammar.Same(g, shown()) || !grammar.Same(shown(), g) || mustText(t, g) != shownText {
		t.Error("Same of grammars with an empty right side")
	}
	shows(t, g, 1, "S =", api.OK)
	for _, l := range [][]string{nil, {}} {
		g := shown()
		g.Tokens = l
		checked(t, g, api.ErrShort)
		g = shown()
		g.Names = l
		checked(t, g, api.ErrShort)
	}
	for _, l := range [][]api.Prod{nil, {}} {
		g := shown()
		g.Prods = l
		checked(t, g, api.ErrMissing)
	}
	x := mustSource(t, shown())
	x.Rules[0].Alts[1] = []string{}
	if h := mustOf(t, x); plain(h) != plain(shown()) {
		t.Error(plain(h))
	}
}

// P9.5: there and back again, from grammars, and from sources and texts.
func TestThereAndBack(t *testing.T) {
	read := 0
	for _, g := range validGrammars() {
		x := mustSource(t, g)
		h := mustOf(t, x)
		if !grammar.Same(g, h) || plain(g) != plain(h) || grammar.Check(h) != api.OK {
			t.Errorf("%s became %s", plain(g), plain(h))
		}
		if y := mustSource(t, h); !source.Same(x, y) {
			t.Errorf("%v became %v", x, y)
		}
		s := mustText(t, g)
		if len(s) > api.MaxSource {
			continue
		}
		read++
		y, f := source.Parse(s)
		if k := mustOf(t, y); f != (api.Fault{}) || !grammar.Same(g, k) {
			t.Errorf("%q is read as %s", s, plain(k))
		}
	}
	if read < 290 {
		t.Errorf("only %d texts were short enough", read)
	}
}

// P9.6: each production belongs to one nonterminal, and stands behind those of the nonterminals before it.
func TestProductionsStandInOrder(t *testing.T) {
	for _, g := range validGrammars() {
		var all []int
		for i := range g.Names {
			l, e := grammar.Prods(g, 16+i)
			if e != api.OK || len(l) == 0 {
				t.Errorf("Prods(%s, %d): %v, %v", plain(g), 16+i, l, e)
			}
			for _, p := range l {
				if s, e := grammar.Show(g, p); e != api.OK || !strings.HasPrefix(s, g.Names[i]+" =") {
					t.Errorf("Show(%s, %d): %q, %v", plain(g), p, s, e)
				}
			}
			all = append(all, l...)
		}
		if len(all) != len(g.Prods) {
			t.Errorf("%s: %d productions", plain(g), len(all))
		}
		for p, q := range all {
			if p != q {
				t.Errorf("%s: %d stands in the place of %d", plain(g), q, p)
			}
		}
	}
}

// P9.7: symbols and names belong to each other one to one.
func TestSymbolsAndNamesBelongTogether(t *testing.T) {
	for _, g := range validGrammars() {
		there := map[string]bool{}
		for symbol := range 40 {
			s, e := grammar.Name(g, symbol)
			if e != api.OK {
				continue
			}
			if there[s] {
				t.Errorf("%s: %q is the name of two symbols", plain(g), s)
			}
			there[s] = true
			hasSymbol(t, g, s, symbol, api.OK)
		}
		if len(there) != len(g.Tokens)+len(g.Names) {
			t.Errorf("%s: %d symbols have names", plain(g), len(there))
		}
		for s := range there {
			symbol, _ := grammar.Symbol(g, s)
			hasName(t, g, symbol, s, api.OK)
		}
	}
}

// P9.8: two valid grammars have the same text exactly if they are equal.
func TestTextsTellGrammarsApart(t *testing.T) {
	l := validGrammars()
	for _, differ := range differences() {
		g := shown()
		differ(&g)
		if grammar.Check(g) == api.OK {
			l = append(l, g)
		}
	}
	r := rand.New(rand.NewSource(98))
	for range 200 {
		g := clone(pick(r, l))
		if broken(r, &g); grammar.Check(g) == api.OK {
			l = append(l, g)
		}
	}
	owners := map[string]string{}
	texts := map[string]string{}
	for _, g := range l {
		s := mustText(t, g)
		if owner, found := owners[s]; found && owner != plain(g) {
			t.Errorf("%q is the text of %s and of %s", s, owner, plain(g))
		}
		if other, found := texts[plain(g)]; found && other != s {
			t.Errorf("%s has the texts %q and %q", plain(g), other, s)
		}
		owners[s], texts[plain(g)] = plain(g), s
	}
	if len(owners) < 350 {
		t.Errorf("only %d grammars", len(owners))
	}
}

// use calls all functions that take grammars.
func use(g api.Grammar) {
	grammar.Check(g)
	grammar.Source(g)
	grammar.Text(g)
	for _, n := range []int{-1, 0, 1, 16, 17, 18} {
		grammar.Nonterm(g, n)
		grammar.Prods(g, n)
		grammar.Name(g, n)
		grammar.Show(g, n)
	}
	grammar.Symbol(g, "T")
	grammar.Same(g, g)
}

// R4: arguments stay as they are, and so does the room behind their slices.
func TestArgumentsStay(t *testing.T) {
	for _, c := range changes() {
		whole := shown()
		c.apply(&whole)
		g := whole
		whole.Tokens, whole.Names = append(slices.Clone(g.Tokens), "room", "room"), append(slices.Clone(g.Names), "Room", "Room")
		whole.Prods = append(slices.Clone(g.Prods), api.Prod{Left: 1, Right: []int{7}}, api.Prod{Left: 2, Right: []int{8}})
		for i, prod := range whole.Prods {
			whole.Prods[i].Right = append(slices.Clone(prod.Right), 77, 78)
		}
		g.Tokens, g.Names, g.Prods = whole.Tokens[:len(g.Tokens)], whole.Names[:len(g.Names)], slices.Clone(whole.Prods[:len(g.Prods)])
		for i, prod := range g.Prods {
			g.Prods[i].Right = prod.Right[:len(prod.Right)-2]
		}
		prods := plain(g)
		before := plain(whole)
		use(g)
		if plain(whole) != before || plain(g) != prods {
			t.Errorf("%s: %s became %s", c.what, before, plain(whole))
		}
	}
	x := mustSource(t, shown())
	x.Tokens = append(x.Tokens, "room")[:2]
	x.Rules = append(x.Rules, api.SourceRule{Name: "Room"})[:2]
	x.Rules[0].Alts[0] = append(x.Rules[0].Alts[0], "room")[:2]
	mustOf(t, x)
	if !source.Same(x, wantSource(shown())) || x.Tokens[:3][2] != "room" || x.Rules[:3][2].Name != "Room" || x.Rules[0].Alts[0][:3][2] != "room" {
		t.Error(x)
	}
}

// R4: grammars share no memory with sources or with other results, and their lists none with each other.
func TestNothingOfGrammarsIsShared(t *testing.T) {
	for _, g := range validGrammars() {
		x := mustSource(t, g)
		h, other := mustOf(t, x), mustOf(t, x)
		h.Tokens, h.Names, h.Prods = append(h.Tokens, "more", "more")[:len(h.Tokens)], append(h.Names, "More", "More")[:len(h.Names)], append(h.Prods, api.Prod{Left: 99})[:len(h.Prods)]
		for i, prod := range h.Prods {
			h.Prods[i].Right = append(prod.Right, 99)[:len(prod.Right)]
		}
		if plain(h) != plain(g) || plain(other) != plain(g) || !source.Same(x, wantSource(g)) {
			t.Errorf("%s became %s", plain(g), plain(h))
		}
		for i := range h.Tokens {
			h.Tokens[i] = "changed"
		}
		if !slices.Equal(h.Names, g.Names) || h.Sep != g.Sep {
			t.Errorf("%s became %s", plain(g), plain(h))
		}
		for i := range h.Names {
			h.Names[i] = "Changed"
		}
		for i, prod := range h.Prods {
			for j := range prod.Right {
				h.Prods[i].Right[j] = 99
			}
			for _, later := range h.Prods[i+1:] {
				if slices.Contains(later.Right, 99) {
					t.Errorf("%s: right sides are shared", plain(g))
				}
			}
		}
		if plain(other) != plain(g) || !source.Same(x, wantSource(g)) {
			t.Errorf("%s became %s", plain(g), plain(other))
		}
		for i := range x.Tokens {
			x.Tokens[i] = "changed"
		}
		if plain(other) != plain(g) {
			t.Errorf("%s became %s", plain(g), plain(other))
		}
	}
}

// R4: sources and lists of productions share no memory with grammars or with other results.
func TestNothingOfSourcesIsShared(t *testing.T) {
	for _, g := range validGrammars() {
		before := clone(g)
		x, other := mustSource(t, g), mustSource(t, g)
		x.Tokens, x.Rules = append(x.Tokens, "more")[:len(x.Tokens)], append(x.Rules, api.SourceRule{})[:len(x.Rules)]
		for i, rule := range x.Rules {
			for j, alt := range rule.Alts {
				x.Rules[i].Alts[j] = append(alt, "more")[:len(alt)]
			}
			x.Rules[i].Alts = append(rule.Alts, nil)[:len(rule.Alts)]
		}
		if !source.Same(x, other) {
			t.Errorf("%v became %v", other, x)
		}
		for i, rule := range x.Rules {
			for j, alt := range rule.Alts {
				for k := range alt {
					x.Rules[i].Alts[j][k] = "changed"
				}
			}
			x.Rules[i] = api.SourceRule{}
		}
		for i := range x.Tokens {
			x.Tokens[i] = "changed"
		}
		l, _ := grammar.Prods(g, 16)
		for i := range l {
			l[i] = 99
		}
		if !source.Same(other, wantSource(before)) || plain(g) != plain(before) {
			t.Errorf("%s became %s", plain(before), plain(g))
		}
	}
}

// P1, R5: no argument is too great or too strange.
func TestAllArgumentsAreTaken(t *testing.T) {
	for _, n := range slices.Concat(strange, []int{1<<32 + 2}) {
		g := shown()
		g.K = n
		checked(t, g, api.ErrRange)
		g = shown()
		g.Start = n
		checked(t, g, api.ErrSymbol)
		g = shown()
		g.Prods[2].Left = n
		checked(t, g, api.ErrSymbol)
		g = shown()
		g.Prods[2].Right[1] = n
		checked(t, g, api.ErrSymbol)
	}
	long := strings.Repeat("a", 1<<20)
	for _, c := range []change{
		{"tokens", func(g *api.Grammar) { g.Tokens = make([]string, 1<<20) }, api.ErrFull},
		{"names", func(g *api.Grammar) { g.Names = make([]string, 1<<20) }, api.ErrFull},
		{"productions", func(g *api.Grammar) { g.Prods = make([]api.Prod, 1<<20) }, api.ErrFull},
		{"symbols", func(g *api.Grammar) { g.Prods[1].Right = make([]int, 1<<20) }, api.ErrFull},
		{"a long token", func(g *api.Grammar) { g.Tokens[0] = long }, api.ErrName},
		{"a long separator", func(g *api.Grammar) { g.Sep = long }, api.ErrName},
		{"a long name", func(g *api.Grammar) { g.Names[0] = "A" + long }, api.ErrName},
		{"bytes that are no runes", func(g *api.Grammar) { g.Tokens[0] = "a\xff" }, api.ErrName},
		{"a letter of another script", func(g *api.Grammar) { g.Names[0] = "É" }, api.ErrName},
	} {
		g := shown()
		c.apply(&g)
		checked(t, g, c.err)
		if !grammar.Same(g, g) || grammar.Same(g, shown()) {
			t.Errorf("%s: Same", c.what)
		}
	}
	hasSymbol(t, shown(), long, 0, api.ErrMissing)
}
