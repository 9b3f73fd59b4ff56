package first_test

import (
	"fmt"
	"math"
	"math/rand"
	"slices"
	"strconv"
	"strings"
	"testing"

	"stenotype/api"
	"stenotype/first"
	"stenotype/grammar"
	"stenotype/look"
	"stenotype/lookset"
	"stenotype/source"
)

// strange are numbers that no grammar has as symbols, and no look has as its length or its terminals.
var strange = []int{math.MinInt, math.MinInt + 1, math.MinInt + 16, -17, -16, -1, 8, 15, 24, 25, 40, 256, 1 << 16, 1 << 32, 1<<32 + 16, math.MaxInt - 16, math.MaxInt}

// words are strings of terminals, each terminal written as a digit.
type words map[string]bool

// plain returns the look that is written as digits, or as - if it has no terminals, without the program.
func plain(word string) api.Look {
	var x api.Look
	for _, digit := range strings.Trim(word, "-") {
		x.S[x.N] = int(digit - '0')
		x.N++
	}
	return x
}

// set returns the looks of words that are written side by side, with blanks between them.
func set(text string) []api.Look {
	var l []api.Look
	for _, word := range strings.Fields(text) {
		l = append(l, plain(word))
	}
	return l
}

// digits writes a right look as its terminals, so that the order of strings is the order of looks.
func digits(x api.Look) string {
	var s strings.Builder
	for _, symbol := range x.S[:x.N] {
		s.WriteByte('0' + byte(symbol))
	}
	return s.String()
}

// looks returns the looks of w, in order.
func looks(w words) []api.Look {
	var list []string
	for word := range w {
		list = append(list, word)
	}
	slices.Sort(list)
	var l []api.Look
	for _, word := range list {
		l = append(l, plain(word))
	}
	return l
}

// upTo returns the first k bytes of s, or all if there are fewer.
func upTo(s string, k int) string { return s[:min(k, len(s))] }

// universe returns all words of at most k terminals.
func universe(terms, k int) words {
	all, last := words{"": true}, []string{""}
	for range k {
		var longer []string
		for _, s := range last {
			for symbol := range terms {
				longer = append(longer, s+strconv.Itoa(symbol))
			}
		}
		for _, s := range longer {
			all[s] = true
		}
		last = longer
	}
	return all
}

// show writes a list of looks, and no more of it than one wants to read.
func show(l []api.Look) string { return fmt.Sprintf("%d looks %v", len(l), l[:min(len(l), 20)]) }

// prod returns a production.
func prod(left int, right ...int) api.Prod { return api.Prod{Left: left, Right: right} }

// with returns a grammar with so many terminals and nonterminals, with the start 16.
func with(k, terms, nonterms int, prods ...api.Prod) api.Grammar {
	g := api.Grammar{K: k, Sep: "z", Start: 16, Prods: prods}
	for i := range terms {
		g.Tokens = append(g.Tokens, "t"+strconv.Itoa(i))
	}
	for i := range nonterms {
		g.Names = append(g.Names, "N"+strconv.Itoa(i))
	}
	return g
}

// example returns the grammar of the examples, read from its text.
func example(t *testing.T) api.Grammar {
	t.Helper()
	x, f := source.Parse("lookahead 2; token a, b; separator z; start S; S = a S b | ; T = S T a | b;")
	g, e := grammar.Of(x)
	if f != (api.Fault{}) || e != api.OK {
		t.Fatal(f, e)
	}
	return g
}

// clone returns a grammar that is equal to g, in memory of its own.
func clone(g api.Grammar) api.Grammar {
	h := g
	h.Tokens, h.Names, h.Prods = slices.Clone(g.Tokens), slices.Clone(g.Names), slices.Clone(g.Prods)
	for i := range h.Prods {
		h.Prods[i].Right = slices.Clone(g.Prods[i].Right)
	}
	return h
}

// anySymbol returns a terminal or a nonterminal of g; the greater dull is, from 0 to 3, the more often a terminal.
func anySymbol(r *rand.Rand, g api.Grammar, dull int) int {
	if r.Intn(4) < dull {
		return r.Intn(len(g.Tokens))
	}
	return 16 + r.Intn(len(g.Names))
}

// anySymbols returns at most most symbols of g.
func anySymbols(r *rand.Rand, g api.Grammar, most int) []int {
	var l []int
	for range r.Intn(most + 1) {
		l = append(l, anySymbol(r, g, 2))
	}
	return l
}

// random returns a valid grammar at random with that many terminals, nonterminals and productions, and at most right symbols on a right side.
func random(r *rand.Rand, terms, nonterms, prods, right int) api.Grammar {
	g := with(1+max(r.Intn(4), r.Intn(4)), terms, nonterms)
	g.Start += r.Intn(nonterms)
	var lefts []int
	for i := range nonterms {
		lefts = append(lefts, 16+i)
	}
	for range prods - nonterms {
		lefts = append(lefts, 16+r.Intn(nonterms))
	}
	slices.Sort(lefts)
	// With few terminals, few nonterminals derive anything; with many of them, few are nullable.
	dull := 1 + r.Intn(3)
	for _, left := range lefts {
		p := prod(left)
		for range min(r.Intn(6), 1) * (1 + r.Intn(right)) {
			p.Right = append(p.Right, anySymbol(r, g, dull))
		}
		g.Prods = append(g.Prods, p)
	}
	return g
}

// grammars are valid grammars: that of the examples, some that need many rounds, and some at random, of at most three terminals.
func grammars(t *testing.T) []api.Grammar {
	l := []api.Grammar{example(t)}
	for k := 1; k <= 4; k++ {
		for _, by := range []int{1, 3, 5, 7} {
			l = append(l, circle(k, by, 0), circle(k, by, 1))
		}
	}
	r := rand.New(rand.NewSource(15))
	for range 200 {
		nonterms := 1 + min(r.Intn(8), r.Intn(8))
		l = append(l, random(r, 1+max(r.Intn(3), r.Intn(3)), nonterms, min(2*nonterms+r.Intn(2*nonterms+2), 23), 1+r.Intn(6)))
	}
	return l
}

// circle returns a grammar of eight nonterminals, each of which is replaced by the one that is that many numbers behind it; the first one has a terminal before or behind that, and can be empty.
func circle(k, by, side int) api.Grammar {
	g := with(k, 2, 8, prod(16))
	g.Prods = append(g.Prods, prod(16, slices.Insert([]int{16 + by}, side, 1)...))
	for i := 1; i < 8; i++ {
		g.Prods = append(g.Prods, prod(16+i, 16+(i+by)%8))
	}
	return g
}

// wanted are FIRST_k of all symbols of a grammar, for the second way.
type wanted struct {
	k     int
	words map[int]words
}

// want returns FIRST_k of all symbols of g: whole sets are joined, again and again, until no set grows.
func want(g api.Grammar) wanted {
	w := wanted{g.K, map[int]words{}}
	for symbol := range g.Tokens {
		w.words[symbol] = words{strconv.Itoa(symbol): true}
	}
	for i := range g.Names {
		w.words[16+i] = words{}
	}
	for grew := true; grew; {
		grew = false
		for _, p := range g.Prods {
			for word := range w.of(p.Right) {
				grew = grew || !w.words[p.Left][word]
				w.words[p.Left][word] = true
			}
		}
	}
	return w
}

// of returns FIRST_k of a list of symbols.
func (w wanted) of(symbols []int) words {
	all := words{"": true}
	for _, symbol := range symbols {
		longer := words{}
		for x := range all {
			for y := range w.words[symbol] {
				longer[upTo(x+y, w.k)] = true
			}
		}
		all = longer
	}
	return all
}

// wantList is what is to be returned of l: not more than 600 looks.
func wantList(l []api.Look) ([]api.Look, api.Errno) {
	if len(l) > 600 {
		return nil, api.ErrStrings
	}
	return l, api.OK
}

// isOf demands that Of says this.
func isOf(t *testing.T, g api.Grammar, symbols []int, want []api.Look, err api.Errno) {
	t.Helper()
	if l, e := first.Of(g, symbols); !slices.Equal(l, want) || e != err {
		t.Errorf("Of(%v, %v): %s, %v, not %s, %v", g, symbols, show(l), e, show(want), err)
	}
}

// isHas demands that Has says this.
func isHas(t *testing.T, g api.Grammar, symbols []int, x api.Look, want bool, err api.Errno) {
	t.Helper()
	if is, e := first.Has(g, symbols, x); is != want || e != err {
		t.Errorf("Has(%v, %v, %v): %v, %v, not %v, %v", g, symbols, x, is, e, want, err)
	}
}

// isNullable demands that Nullable says this.
func isNullable(t *testing.T, g api.Grammar, symbols []int, want bool, err api.Errno) {
	t.Helper()
	if is, e := first.Nullable(g, symbols); is != want || e != err {
		t.Errorf("Nullable(%v, %v): %v, %v, not %v, %v", g, symbols, is, e, want, err)
	}
}

// isCount demands that Count says this.
func isCount(t *testing.T, g api.Grammar, symbols []int, want int, err api.Errno) {
	t.Helper()
	if n, e := first.Count(g, symbols); n != want || e != err {
		t.Errorf("Count(%v, %v): %d, %v, not %d, %v", g, symbols, n, e, want, err)
	}
}

// isAll demands that All says this.
func isAll(t *testing.T, g api.Grammar, want [][]api.Look, nonterm int, err api.Errno) {
	t.Helper()
	if l, n, e := first.All(g); !slices.EqualFunc(l, want, slices.Equal[[]api.Look]) || n != nonterm || e != err {
		t.Errorf("All(%v): %v, %d, %v, not %v, %d, %v", g, l, n, e, want, nonterm, err)
	}
}

// isFirst demands of all functions with a list of symbols that FIRST_k of it is that of w.
func isFirst(t *testing.T, g api.Grammar, symbols []int, w words) {
	t.Helper()
	l, e := wantList(looks(w))
	isOf(t, g, symbols, l, e)
	isCount(t, g, symbols, len(w), api.OK)
	isNullable(t, g, symbols, w[""], api.OK)
}

// isWrong demands of all functions with a list of symbols that they return err, with x for Has.
func isWrong(t *testing.T, g api.Grammar, symbols []int, x api.Look, err api.Errno) {
	t.Helper()
	isOf(t, g, symbols, nil, err)
	isHas(t, g, symbols, x, false, err)
	isNullable(t, g, symbols, false, err)
	isCount(t, g, symbols, 0, err)
}

// of returns what Of says of symbols, which must be a set that is right for g.
func of(t *testing.T, g api.Grammar, symbols ...int) []api.Look {
	t.Helper()
	l, e := first.Of(g, symbols)
	if e != api.OK || lookset.Check(len(g.Tokens), l) != api.OK {
		t.Fatalf("Of(%v, %v): %s, %v", g, symbols, show(l), e)
	}
	return l
}

// same demands that two sets are equal.
func same(t *testing.T, g api.Grammar, why string, a, b []api.Look) {
	t.Helper()
	if !slices.Equal(a, b) {
		t.Errorf("%v: %s: %s is not %s", g, why, show(a), show(b))
	}
}

// The rows of the examples.
func TestExamples(t *testing.T) {
	g := example(t)
	isOf(t, g, []int{16}, set("- 00 01"), api.OK)
	isOf(t, g, []int{17}, set("00 01 1 10"), api.OK)
	isOf(t, g, []int{0, 16}, set("0 00"), api.OK)
	isOf(t, g, nil, set("-"), api.OK)
	isOf(t, g, []int{16, 16}, set("- 00 01"), api.OK)
	isNullable(t, g, []int{16, 16}, true, api.OK)
	isNullable(t, g, []int{17}, false, api.OK)
	isHas(t, g, []int{16}, plain("01"), true, api.OK)
	isHas(t, g, []int{16}, plain("0"), false, api.OK)
	isHas(t, g, []int{16}, plain("2"), false, api.ErrSymbol)
	isCount(t, g, []int{17}, 4, api.OK)
	isOf(t, g, []int{18}, nil, api.ErrSymbol)
	isAll(t, g, [][]api.Look{set("- 00 01"), set("00 01 1 10")}, 0, api.OK)
}

// P15.1, P15.2: all functions, held against sets of words that grow as a whole.
func TestSecondWay(t *testing.T) {
	r := rand.New(rand.NewSource(152))
	sizes := map[int]int{}
	for _, g := range grammars(t) {
		if e := grammar.Check(g); e != api.OK {
			t.Fatalf("%v: %v", g, e)
		}
		w := want(g)
		var all [][]api.Look
		for i := range g.Names {
			all = append(all, looks(w.words[16+i]))
			sizes[min(len(w.words[16+i]), 20)]++
			isFirst(t, g, []int{16 + i}, w.words[16+i])
		}
		isAll(t, g, all, 0, api.OK)
		for _, p := range g.Prods {
			isFirst(t, g, p.Right, w.of(p.Right))
		}
		for range 4 {
			symbols := anySymbols(r, g, 5)
			isFirst(t, g, symbols, w.of(symbols))
		}
	}
	if len(sizes) < 20 || sizes[0] < 20 || sizes[1] < 20 || sizes[20] < 30 {
		t.Errorf("the sets are too much alike: %v", sizes)
	}
}

// P15.2: Has, for all looks that are right for the grammar, also those with more than k terminals.
func TestHasOfAllLooks(t *testing.T) {
	r := rand.New(rand.NewSource(1520))
	count := map[bool]int{}
	for range 60 {
		g := random(r, 1+r.Intn(2), 1+r.Intn(3), 3+r.Intn(6), 4)
		w := want(g)
		for _, symbols := range [][]int{nil, {0}, {16}, anySymbols(r, g, 4)} {
			in := w.of(symbols)
			for word := range universe(len(g.Tokens), 4) {
				isHas(t, g, symbols, plain(word), in[word], api.OK)
				count[in[word]]++
			}
		}
	}
	if count[true] < 200 || count[false] < 200 {
		t.Errorf("the looks are too much alike: %v", count)
	}
}

// derived returns the first k terminals of all strings that a list of symbols derives by forms with at most width symbols, the first nonterminal being replaced each time.
func derived(g api.Grammar, symbols []int, width int) words {
	all := words{}
	begin := ""
	for _, symbol := range symbols {
		begin += string(rune('0' + symbol))
	}
	seen := map[string]bool{begin: true}
	for forms := []string{begin}; len(forms) > 0; forms = forms[1:] {
		form := forms[0]
		at := strings.IndexFunc(form, func(r rune) bool { return r >= '0'+16 })
		if at < 0 {
			all[upTo(form, g.K)] = true
			continue
		}
		for _, p := range g.Prods {
			if p.Left != int(form[at]-'0') {
				continue
			}
			next := form[:at]
			for _, symbol := range p.Right {
				next += string(rune('0' + symbol))
			}
			next += form[at+1:]
			if len(next) <= width && !seen[next] {
				seen[next] = true
				forms = append(forms, next)
			}
		}
	}
	return all
}

// rights returns all right sides of at most most symbols of l.
func rights(l []int, most int) [][]int {
	all, last := [][]int{nil}, [][]int{nil}
	for range most {
		var longer [][]int
		for _, right := range last {
			for _, symbol := range l {
				longer = append(longer, append(slices.Clone(right), symbol))
			}
		}
		all, last = append(all, longer...), longer
	}
	return all
}

// P15.1, P15.2: all grammars of one nonterminal with two short productions, held against the derivations themselves.
func TestDerivationsOfOneNonterminal(t *testing.T) {
	all := rights([]int{0, 1, 16}, 2)
	for k := 1; k <= 3; k++ {
		for i, a := range all {
			for _, b := range all[i:] {
				g := with(k, 2, 1, prod(16, a...), prod(16, b...))
				for _, symbols := range [][]int{{16}, {16, 16}, {16, 0, 16}, {1, 16}} {
					isFirst(t, g, symbols, derived(g, symbols, 8))
				}
			}
		}
	}
}

// P15.1, P15.2: all grammars of two nonterminals with short productions, of which the second one has one alone, held against the derivations themselves.
func TestDerivationsOfTwoNonterminals(t *testing.T) {
	all := rights([]int{0, 16, 17}, 2)
	for i, a := range all {
		for _, b := range all[i:] {
			for _, c := range all {
				g := with(2, 1, 2, prod(16, a...), prod(16, b...), prod(17, c...))
				isFirst(t, g, []int{16}, derived(g, []int{16}, 5))
				isFirst(t, g, []int{17}, derived(g, []int{17}, 5))
			}
		}
	}
}

// P15.2: a symbol that derives nothing leaves nothing, also behind looks that have no room.
func TestNothingIsDerived(t *testing.T) {
	for k := 1; k <= 4; k++ {
		// The second one derives nothing, the third one has a production that does.
		g := with(k, 2, 3, prod(16, 0, 16), prod(16), prod(17, 1, 17), prod(18, 0, 0, 0, 0, 17), prod(18, 1))
		isAll(t, g, [][]api.Look{looks(want(g).words[16]), nil, set("1")}, 0, api.OK)
		for _, symbols := range [][]int{{17}, {0, 17}, {0, 0, 0, 0, 17}, {0, 0, 0, 0, 0, 17, 0}, {17, 0}, {16, 17}, {17, 16}, {17, 17}} {
			isFirst(t, g, symbols, words{})
			isHas(t, g, symbols, api.Look{}, false, api.OK)
			isHas(t, g, symbols, plain("0"), false, api.OK)
		}
	}
}

// P15.1, R1, R3: All tells the error of grammar.Check first, and alone.
func TestGrammarsThatAreNotValid(t *testing.T) {
	change := func(f func(g *api.Grammar)) api.Grammar {
		g := clone(example(t))
		f(&g)
		return g
	}
	for _, c := range []struct {
		g   api.Grammar
		err api.Errno
	}{
		{api.Grammar{}, api.ErrRange},
		{change(func(g *api.Grammar) { g.K = 5 }), api.ErrRange},
		{change(func(g *api.Grammar) { g.Prods = slices.Repeat(g.Prods, 7) }), api.ErrFull},
		{change(func(g *api.Grammar) { g.Tokens = nil }), api.ErrShort},
		{change(func(g *api.Grammar) { g.Sep = "Z" }), api.ErrName},
		{change(func(g *api.Grammar) { g.Names[1] = "S" }), api.ErrExists},
		{change(func(g *api.Grammar) { g.Prods[3].Right[0] = 2 }), api.ErrSymbol},
		{change(func(g *api.Grammar) { slices.Reverse(g.Prods) }), api.ErrOrder},
		{change(func(g *api.Grammar) { g.Prods = g.Prods[:2] }), api.ErrMissing},
	} {
		isAll(t, c.g, nil, 0, c.err)
		for _, symbols := range [][]int{nil, {16}, {99}, make([]int, 101), slices.Repeat([]int{-1}, 101)} {
			isWrong(t, c.g, symbols, api.Look{}, c.err)
			isWrong(t, c.g, symbols, api.Look{N: 9}, c.err)
		}
	}
}

// P15.2, R1, R3: the number of symbols is asked first, then the symbols, then the look.
func TestSymbolsThatAreNotRight(t *testing.T) {
	g := example(t)
	for _, n := range []int{101, 102, 256, 1000, 1 << 16, 1<<16 + 1} {
		for _, symbol := range []int{0, 16, 2, -1} {
			isWrong(t, g, slices.Repeat([]int{symbol}, n), api.Look{}, api.ErrFull)
			isWrong(t, g, slices.Repeat([]int{symbol}, n), api.Look{N: 9}, api.ErrFull)
		}
	}
	for _, symbol := range append([]int{2, 3, 7, 9, 18, 19, 23}, strange...) {
		for _, symbols := range [][]int{{symbol}, {0, symbol}, {symbol, 0}, {16, 17, symbol}, append(make([]int, 99), symbol), slices.Repeat([]int{symbol}, 100)} {
			isWrong(t, g, symbols, api.Look{}, api.ErrSymbol)
			isWrong(t, g, symbols, api.Look{N: 9}, api.ErrSymbol)
		}
	}
	isFirst(t, g, make([]int, 99), words{"00": true})
	isFirst(t, g, make([]int, 100), words{"00": true})
	isFirst(t, g, slices.Repeat([]int{16}, 100), words{"": true, "00": true, "01": true})
}

// P15.2: Has tells what is wrong with the look, whatever FIRST_k of the list is.
func TestLooksThatAreNotRight(t *testing.T) {
	g := example(t)
	for _, symbols := range [][]int{nil, {16}, {0, 17}} {
		for _, n := range append([]int{5, 6, -2}, strange...) {
			isHas(t, g, symbols, api.Look{N: n}, false, api.ErrForm)
			if n != 0 {
				isHas(t, g, symbols, api.Look{S: [4]int{0, 0, 0, n}}, false, api.ErrForm)
				isHas(t, g, symbols, api.Look{N: 2, S: [4]int{8, n, 1}}, false, api.ErrForm)
			}
		}
		for _, symbol := range append([]int{2, 3, 4, 5, 6, 7, 16, 17}, strange...) {
			isHas(t, g, symbols, api.Look{N: 1, S: [4]int{symbol}}, false, api.ErrSymbol)
			isHas(t, g, symbols, api.Look{N: 4, S: [4]int{0, 1, 0, symbol}}, false, api.ErrSymbol)
		}
	}
	// What is right depends on how many terminals there are.
	for terms := 1; terms <= 8; terms++ {
		g := with(1, terms, 1, prod(16, terms-1))
		isHas(t, g, []int{16}, plain(strconv.Itoa(terms-1)), true, api.OK)
		isHas(t, g, []int{16}, api.Look{N: 1, S: [4]int{terms}}, false, api.ErrSymbol)
	}
}

// wide returns a grammar with the lookahead 4 and eight terminals, in which the first nonterminal is at most three terminals, which makes 585 looks, or one of the others, the second one any terminal, and the third one the first.
func wide(others ...[]int) api.Grammar {
	g := with(4, 8, 3, prod(16, 17, 17, 17), prod(16, 17, 17), prod(16, 17), prod(16))
	for _, right := range others {
		g.Prods = append(g.Prods, prod(16, right...))
	}
	for term := range 8 {
		g.Prods = append(g.Prods, prod(17, term))
	}
	g.Prods = append(g.Prods, prod(18, 16))
	return g
}

// P15.1, P15.2: 600 looks are not too many, 601 are.
func TestTooManyLooks(t *testing.T) {
	others := [][]int{{0, 0, 0, 17}, {0, 0, 1, 0}, {0, 0, 1, 1}, {0, 0, 2, 0}, {0, 1, 0, 0}, {1, 0, 0, 0}, {7, 7, 7, 6}, {7, 7, 7, 7}}
	for n, size := range []int{585, 593, 594, 595, 596, 597, 598, 599, 600} {
		g := wide(others[:n]...)
		isAll(t, g, [][]api.Look{looks(want(g).words[16]), looks(universe(8, 1))[1:], looks(want(g).words[16])}, 0, api.OK)
		isCount(t, g, []int{16}, size, api.OK)
		isFirst(t, g, []int{16}, want(g).words[16])
	}
	g := wide(append(others, []int{7, 7, 6, 7})...)
	isCount(t, g, []int{16}, 601, api.OK)
	isFirst(t, g, []int{16}, want(g).words[16])
	isOf(t, g, []int{16}, nil, api.ErrStrings)
	isOf(t, g, []int{18}, nil, api.ErrStrings)
	isOf(t, g, []int{17, 16}, nil, api.ErrStrings)
	isHas(t, g, []int{16}, plain("7767"), true, api.OK)
	isHas(t, g, []int{16}, plain("7766"), false, api.OK)
	isNullable(t, g, []int{16}, true, api.OK)
	isAll(t, g, nil, 0, api.ErrStrings)
}

// P15.1, R3: All tells the first nonterminal that has too many looks, and no sets.
func TestFirstNonterminalWithTooManyLooks(t *testing.T) {
	for n := range 7 {
		g := with(4, 5, 8)
		for i := range 8 {
			if i == n || i == 7 {
				// The star of five terminals has 625 looks of four of them.
				for term := range 5 {
					g.Prods = append(g.Prods, prod(16+i, term, 16+i))
				}
				g.Prods = append(g.Prods, prod(16+i))
			} else if i < n {
				// What is computed on the way has no limit.
				g.Prods = append(g.Prods, prod(16+i, 0, 0, 0, 23))
			} else {
				g.Prods = append(g.Prods, prod(16+i, 23, i%5))
			}
		}
		isAll(t, g, nil, n, api.ErrStrings)
		isFirst(t, g, []int{16 + n}, universe(5, 4))
		isOf(t, g, []int{0, 0, 0, 23}, set("000 0000 0001 0002 0003 0004"), api.OK)
	}
}

// P15.2: only the list that is asked for has a limit, not its parts.
func TestPartsHaveNoLimit(t *testing.T) {
	g := with(4, 8, 2, prod(16))
	for term := range 8 {
		g.Prods = append(g.Prods, prod(16, term, 16))
	}
	g.Prods = append(g.Prods, prod(17, 17))
	isFirst(t, g, []int{16}, universe(8, 4))
	isFirst(t, g, slices.Repeat([]int{16}, 20), universe(8, 4))
	isOf(t, g, []int{16}, nil, api.ErrStrings)
	isOf(t, g, []int{16, 17}, nil, api.OK)
	isOf(t, g, []int{7, 7, 7, 7, 16}, set("7777"), api.OK)
	var some []api.Look
	for word := range universe(8, 2) {
		some = append(some, plain("54"+word))
	}
	slices.SortFunc(some, func(x, y api.Look) int { return strings.Compare(digits(x), digits(y)) })
	isOf(t, g, []int{5, 4, 16}, some, api.OK)
	isCount(t, g, []int{5, 16}, 585, api.OK)
	isAll(t, g, nil, 0, api.ErrStrings)
}

// great returns a grammar with as much of everything as there may be: each nonterminal derives all strings, in as many ways as possible.
func great() api.Grammar {
	g := with(4, 8, 8)
	for i := range 8 {
		var others []int
		for by := 1; by <= 6; by++ {
			others = append(others, 16+(i+by)%8)
		}
		g.Prods = append(g.Prods, prod(16+i), prod(16+i, others...), prod(16+i, slices.Replace(slices.Clone(others), 0, 1, i)...))
	}
	return g
}

// P1: the greatest grammar, and the longest list.
func TestGreatGrammar(t *testing.T) {
	g := great()
	if e := grammar.Check(g); e != api.OK {
		t.Fatal(e)
	}
	isCount(t, g, slices.Repeat([]int{16, 23}, 50), 4681, api.OK)
	isOf(t, g, []int{16}, nil, api.ErrStrings)
	isAll(t, g, nil, 0, api.ErrStrings)
	isHas(t, g, []int{0, 20}, plain("0777"), true, api.OK)
	for k, size := range []int{0, 9, 73, 585} {
		if k > 0 {
			g.K = k
			isCount(t, g, []int{19}, size, api.OK)
			isAll(t, g, slices.Repeat([][]api.Look{looks(universe(8, k))}, 8), 0, api.OK)
		}
	}
}

// P15.3: FIRST_k of two lists is the sum of both; of no symbols it is the empty look, of a terminal this alone.
func TestSums(t *testing.T) {
	r := rand.New(rand.NewSource(153))
	for _, g := range grammars(t) {
		same(t, g, "none", of(t, g), set("-"))
		for term := range g.Tokens {
			same(t, g, "terminal", of(t, g, term), set(strconv.Itoa(term)))
		}
		a, b := anySymbols(r, g, 4), anySymbols(r, g, 4)
		sum, e := lookset.Sum(len(g.Tokens), g.K, of(t, g, a...), of(t, g, b...))
		if e != api.OK {
			t.Fatalf("%v: %v", g, e)
		}
		same(t, g, "sum", of(t, g, slices.Concat(a, b)...), sum)
	}
}

// P15.4: FIRST_k of a nonterminal is the union of those of its right sides.
func TestUnions(t *testing.T) {
	for _, g := range grammars(t) {
		for i := range g.Names {
			var sides [][]api.Look
			for _, p := range g.Prods {
				if p.Left == 16+i {
					sides = append(sides, of(t, g, p.Right...))
				}
			}
			all, e := lookset.Union(len(g.Tokens), sides...)
			if e != api.OK {
				t.Fatalf("%v: %v", g, e)
			}
			same(t, g, "union", of(t, g, 16+i), all)
		}
	}
}

// P15.5: a list is nullable exactly if the empty look is in its FIRST_k.
func TestNullable(t *testing.T) {
	r := rand.New(rand.NewSource(155))
	count := map[bool]int{}
	for _, g := range grammars(t) {
		n := 16 + r.Intn(len(g.Names))
		for _, symbols := range [][]int{nil, {0, n}, {n}, {n, n}, {n, 16}, anySymbols(r, g, 3)} {
			in := slices.Contains(of(t, g, symbols...), api.Look{})
			isNullable(t, g, symbols, in, api.OK)
			isHas(t, g, symbols, api.Look{}, in, api.OK)
			count[in]++
		}
	}
	if count[true] < 200 || count[false] < 200 {
		t.Errorf("the lists are too much alike: %v", count)
	}
}

// span is a part of a word, and a symbol that may derive it.
type span struct{ symbol, from, to int }

// derives reports whether a list of symbols derives word itself: for each of its parts it is found which nonterminals derive it.
func derives(g api.Grammar, symbols []int, word string) bool {
	known := map[span]bool{}
	for i := range word {
		known[span{int(word[i] - '0'), i, i + 1}] = true
	}
	var splits func(l []int, from, to int) bool
	splits = func(l []int, from, to int) bool {
		if len(l) == 0 {
			return from == to
		}
		for middle := from; middle <= to; middle++ {
			if known[span{l[0], from, middle}] && splits(l[1:], middle, to) {
				return true
			}
		}
		return false
	}
	for grew := true; grew; {
		grew = false
		for _, p := range g.Prods {
			for from := range len(word) + 1 {
				for to := from; to <= len(word); to++ {
					part := span{p.Left, from, to}
					if !known[part] && splits(p.Right, from, to) {
						known[part], grew = true, true
					}
				}
			}
		}
	}
	return splits(symbols, 0, len(word))
}

// P15.6: the looks of FIRST_k with fewer than k terminals are the strings of so many terminals that the list derives.
func TestShortLooksAreDerived(t *testing.T) {
	r := rand.New(rand.NewSource(156))
	count := map[bool]int{}
	for _, g := range grammars(t) {
		symbols := anySymbols(r, g, 3)
		l := of(t, g, symbols...)
		for word := range universe(len(g.Tokens), min(g.K-1, 2)) {
			in := slices.Contains(l, plain(word))
			if is := derives(g, symbols, word); is != in {
				t.Errorf("%v: %v derives %q: %v, not %v", g, symbols, word, is, in)
			}
			count[in]++
		}
	}
	if count[true] < 200 || count[false] < 500 {
		t.Errorf("the words are too much alike: %v", count)
	}
}

// P15.7: with a lesser lookahead, FIRST_k has the looks, cut to this.
func TestLesserLookahead(t *testing.T) {
	r := rand.New(rand.NewSource(157))
	for _, g := range grammars(t) {
		symbols := anySymbols(r, g, 4)
		l := of(t, g, symbols...)
		for k := 1; k <= g.K; k++ {
			shorter, e := lookset.Cut(len(g.Tokens), k, l)
			if e != api.OK {
				t.Fatalf("%v: %v", g, e)
			}
			h := clone(g)
			h.K = k
			same(t, h, "cut", of(t, h, symbols...), shorter)
		}
	}
}

// P15.8: looks are right for the grammar, and never longer than k; with one production more there are not fewer.
func TestMoreProductions(t *testing.T) {
	r := rand.New(rand.NewSource(158))
	more := 0
	for _, g := range grammars(t) {
		at := r.Intn(len(g.Prods))
		h := clone(g)
		h.Prods = slices.Insert(h.Prods, at, prod(g.Prods[at].Left, anySymbols(r, g, 3)...))
		few, _, e := first.All(g)
		many, _, f := first.All(h)
		if e != api.OK || f != api.OK {
			t.Fatalf("%v: %v, %v", g, e, f)
		}
		for i := range g.Names {
			for _, x := range few[i] {
				if look.Check(x, len(g.Tokens)) != api.OK || x.N > g.K {
					t.Errorf("%v: the look %v", g, x)
				}
			}
			rest, e := lookset.Less(len(g.Tokens), few[i], many[i])
			if e != api.OK || len(rest) > 0 {
				t.Errorf("%v: production %d takes %s away from %d, %v", h, at, show(rest), i, e)
			}
			more += len(many[i]) - len(few[i])
		}
	}
	if more < 500 {
		t.Errorf("the productions change too little: %d", more)
	}
}

// R4: arguments stay as they are, and so does the room behind them.
func TestArgumentsStay(t *testing.T) {
	g := example(t)
	before := clone(g)
	room := []int{16, 0, 17, 99, 98}
	isOf(t, g, room[:3], set("00 01"), api.OK)
	isHas(t, g, room[:3], plain("00"), true, api.OK)
	isNullable(t, g, room[:1], true, api.OK)
	isCount(t, g, room[:2], 3, api.OK)
	isAll(t, g, [][]api.Look{set("- 00 01"), set("00 01 1 10")}, 0, api.OK)
	if !grammar.Same(g, before) || !slices.Equal(room, []int{16, 0, 17, 99, 98}) {
		t.Errorf("%v, %v", g, room)
	}
}

// R4: results share no memory with other results, nor with sets of the same result.
func TestNothingIsShared(t *testing.T) {
	g := example(t)
	g.Prods = append(g.Prods[:2:2], prod(17, 16))
	want := set("- 00 01")
	all, _, _ := first.All(g)
	again, _, _ := first.All(g)
	alone, _ := first.Of(g, []int{16})
	for _, l := range [][]api.Look{again[1], alone, all[0]} {
		// Also the room behind the looks.
		l = l[:cap(l)]
		for i := range l {
			l[i] = plain("1111")
		}
	}
	same(t, g, "another set", all[1], want)
	same(t, g, "another result", again[0], want)
	isOf(t, g, []int{16}, want, api.OK)
	isAll(t, g, [][]api.Look{want, want}, 0, api.OK)
}

// R4: a nil list and an empty one are equal.
func TestNilAndEmpty(t *testing.T) {
	g := example(t)
	for _, none := range [][]int{nil, {}} {
		isFirst(t, g, none, words{"": true})
		isHas(t, g, none, api.Look{}, true, api.OK)
		h := clone(g)
		h.Prods[1].Right = none
		isAll(t, h, [][]api.Look{set("- 00 01"), set("00 01 1 10")}, 0, api.OK)
	}
}

// R6: the same arguments lead to the same results each time.
func TestAgain(t *testing.T) {
	g := great()
	g.K = 2
	want := looks(universe(8, 2))
	for range 20 {
		isOf(t, g, []int{18, 20}, want, api.OK)
		isAll(t, g, slices.Repeat([][]api.Look{want}, 8), 0, api.OK)
	}
}

// P1, R5: no argument is too great or too strange.
func TestAllArgumentsAreTaken(t *testing.T) {
	r := rand.New(rand.NewSource(1))
	pick := func() int { return strange[r.Intn(len(strange))] }
	count := map[api.Errno]int{}
	for range 5000 {
		g := random(r, 1+r.Intn(3), 1+r.Intn(3), 3+r.Intn(6), 4)
		symbols := anySymbols(r, g, 4)
		x := api.Look{N: r.Intn(5)}
		p := &g.Prods[r.Intn(len(g.Prods))]
		switch r.Intn(8) {
		case 0:
			g.K = pick()
		case 1:
			g.Start = pick()
		case 2:
			p.Left = pick()
		case 3:
			p.Right = append(p.Right, pick())
		case 4:
			symbols = append(symbols, pick())
		case 5:
			x.S[r.Intn(4)] = pick()
		case 6:
			x.N = pick()
		}
		err := grammar.Check(g)
		if e := err; e != api.OK {
			isAll(t, g, nil, 0, e)
		} else if _, n, e := first.All(g); n != 0 || e != api.OK {
			t.Errorf("All(%v): %d, %v", g, n, e)
		}
		isSymbol := func(symbol int) bool {
			return symbol >= 0 && symbol < len(g.Tokens) || symbol >= 16 && symbol < 16+len(g.Names)
		}
		if err == api.OK && slices.ContainsFunc(symbols, func(symbol int) bool { return !isSymbol(symbol) }) {
			err = api.ErrSymbol
		}
		if err != api.OK {
			isWrong(t, g, symbols, x, err)
		} else if isFirst(t, g, symbols, want(g).of(symbols)); look.Check(x, len(g.Tokens)) != api.OK {
			err = look.Check(x, len(g.Tokens))
			isHas(t, g, symbols, x, false, err)
		} else {
			isHas(t, g, symbols, x, want(g).of(symbols)[digits(x)], api.OK)
		}
		count[err]++
	}
	if len(count) < 4 || count[api.OK] < 500 || count[api.ErrSymbol] < 500 || count[api.ErrForm] < 100 {
		t.Errorf("the arguments are too much alike: %v", count)
	}
}
