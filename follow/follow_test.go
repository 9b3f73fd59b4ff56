package follow_test

import (
	"fmt"
	"maps"
	"math"
	"math/rand"
	"slices"
	"strconv"
	"strings"
	"testing"

	"stenotype/api"
	"stenotype/first"
	"stenotype/follow"
	"stenotype/grammar"
	"stenotype/look"
	"stenotype/lookset"
	"stenotype/source"
)

// strange are numbers that no grammar has as symbols or productions, and no look has as its length or its terminals.
var strange = []int{math.MinInt, math.MinInt + 1, math.MinInt + 16, -17, -16, -1, 24, 25, 40, 256, 1 << 16, 1 << 32, 1<<32 + 16, math.MaxInt - 16, math.MaxInt}

// words are strings of terminals, each terminal written as a digit.
type words map[string]bool

// plain returns the look that is written as digits, or as - if it has no terminals, without the program.
func plain(word string) api.Look {
	var x api.Look
	for _, digit := range strings.Trim(word, "-") {
		x.S[x.N] = int(digit - '0')
		x.N++
	}
	return x
}

// set returns the looks of words that are written side by side, with blanks between them.
func set(text string) []api.Look {
	var l []api.Look
	for _, word := range strings.Fields(text) {
		l = append(l, plain(word))
	}
	return l
}

// looks returns the looks of w, in order, which is that of strings of digits.
func looks(w words) []api.Look {
	var l []api.Look
	for _, word := range slices.Sorted(maps.Keys(w)) {
		l = append(l, plain(word))
	}
	return l
}

// cut returns the first n terminals of each word of w.
func cut(w words, n int) words {
	shorter := words{}
	for word := range w {
		shorter[word[:min(n, len(word))]] = true
	}
	return shorter
}

// joined returns the first k terminals of x and then y, for all x of a, none of them longer than k, and y of b.
func joined(k int, a, b words) words {
	all, cuts := words{}, map[int]words{}
	for x := range a {
		if cuts[len(x)] == nil {
			cuts[len(x)] = cut(b, k-len(x))
		}
		for y := range cuts[len(x)] {
			all[x+y] = true
		}
	}
	return all
}

// universe returns all words of at most k terminals.
func universe(terms, k int) words {
	all := words{"": true}
	for range k {
		longer := words{"": true}
		for symbol := range terms {
			for word := range all {
				longer[strconv.Itoa(symbol)+word] = true
			}
		}
		all = longer
	}
	return all
}

// begun returns all words of at most four terminals that begin with word.
func begun(word string, terms int) words {
	return joined(4, words{word: true}, universe(terms, 4-len(word)))
}

// show writes a list of looks, and no more of it than one wants to read.
func show(l []api.Look) string { return fmt.Sprintf("%d looks %v", len(l), l[:min(len(l), 20)]) }

// prod returns a production.
func prod(left int, right ...int) api.Prod { return api.Prod{Left: left, Right: right} }

// with returns a grammar with so many terminals and nonterminals, with the start 16.
func with(k, terms, nonterms int, prods ...api.Prod) api.Grammar {
	g := api.Grammar{K: k, Sep: "z", Start: 16, Prods: prods}
	for i := range terms {
		g.Tokens = append(g.Tokens, "t"+strconv.Itoa(i))
	}
	for i := range nonterms {
		g.Names = append(g.Names, "N"+strconv.Itoa(i))
	}
	return g
}

// example returns the grammar of the examples, read from its text.
func example(t *testing.T) api.Grammar {
	t.Helper()
	x, f := source.Parse("lookahead 2; token a, b, d; separator c; start S; S = a S b | B; B = d | ;")
	g, e := grammar.Of(x)
	if f != (api.Fault{}) || e != api.OK {
		t.Fatal(f, e)
	}
	return g
}

// clone returns a grammar that is equal to g, in memory of its own.
func clone(g api.Grammar) api.Grammar {
	h := g
	h.Tokens, h.Names, h.Prods = slices.Clone(g.Tokens), slices.Clone(g.Names), slices.Clone(g.Prods)
	for i := range h.Prods {
		h.Prods[i].Right = slices.Clone(g.Prods[i].Right)
	}
	return h
}

// anyRight returns at most most symbols of g; the greater dull is, from 0 to 3, the more of them are terminals.
func anyRight(r *rand.Rand, g api.Grammar, dull, most int) []int {
	var l []int
	for range min(r.Intn(5), 1) * r.Intn(most+1) {
		symbol := 16 + r.Intn(len(g.Names))
		if r.Intn(4) < dull {
			symbol = r.Intn(len(g.Tokens))
		}
		l = append(l, symbol)
	}
	return l
}

// random returns a valid grammar at random with that many terminals, nonterminals and productions, and at most right symbols on a right side.
func random(r *rand.Rand, k, terms, nonterms, prods, right int) api.Grammar {
	g := with(k, terms, nonterms)
	g.Start += r.Intn(nonterms)
	var lefts []int
	for i := range prods {
		left := 16 + r.Intn(nonterms)
		if i < nonterms {
			left = 16 + i
		}
		lefts = append(lefts, left)
	}
	slices.Sort(lefts)
	// With few terminals, few nonterminals derive anything; with many of them, little stands behind any.
	dull := 1 + r.Intn(2)
	for _, left := range lefts {
		g.Prods = append(g.Prods, prod(left, anyRight(r, g, dull, right)...))
	}
	return g
}

// circle returns a grammar of eight nonterminals, each of which is replaced by the one that is that many numbers behind it, for one of them with some terminals behind that; the first one can be empty.
func circle(k, by int, behind ...int) api.Grammar {
	g := with(k, 2, 8, prod(16))
	for i := range 8 {
		g.Prods = append(g.Prods, prod(16+i, 16+(i+by)%8))
	}
	last := &g.Prods[1+len(behind)%8]
	last.Right = append(last.Right, behind...)
	return g
}

// grammars are valid grammars: that of the examples, some that need many rounds, and some at random, of at most three terminals.
func grammars(t *testing.T) []api.Grammar {
	l := []api.Grammar{example(t)}
	for k := 1; k <= 4; k++ {
		for _, by := range []int{1, 3, 5, 7} {
			l = append(l, circle(k, by, 0), circle(k, by, 1, 0), circle(k, by))
		}
	}
	r := rand.New(rand.NewSource(16))
	for range 200 {
		nonterms := 1 + min(r.Intn(8), r.Intn(8))
		l = append(l, random(r, 1+max(r.Intn(4), r.Intn(4)), 1+max(r.Intn(3), r.Intn(3)), nonterms, min(2*nonterms+r.Intn(nonterms+1), 23), 2+r.Intn(5)))
	}
	return l
}

// wanted are FIRST_k and FOLLOW_k of all symbols of a grammar, for the second way.
type wanted struct {
	g               api.Grammar
	firsts, follows map[int]words
}

// want returns FIRST_k and FOLLOW_k of all symbols of g: whole sets are joined, again and again, until no set grows.
func want(g api.Grammar) wanted {
	w := wanted{g, map[int]words{}, map[int]words{}}
	for symbol := range 24 {
		w.firsts[symbol], w.follows[symbol] = words{}, words{}
	}
	for symbol := range g.Tokens {
		w.firsts[symbol][strconv.Itoa(symbol)] = true
	}
	untilNothingGrows(w.firsts, func() {
		for _, p := range g.Prods {
			maps.Copy(w.firsts[p.Left], w.first(p.Right))
		}
	})
	w.follows[g.Start][""] = true
	untilNothingGrows(w.follows, func() {
		for p := range g.Prods {
			for dot, symbol := range g.Prods[p].Right {
				maps.Copy(w.follows[symbol], w.behind(p, dot+1))
			}
		}
	})
	return w
}

// untilNothingGrows calls round again and again until no set of m has more words behind a call than before it.
func untilNothingGrows(m map[int]words, round func()) {
	size := func() int {
		n := 0
		for _, w := range m {
			n += len(w)
		}
		return n
	}
	for before := -1; size() > before; {
		before = size()
		round()
	}
}

// first returns FIRST_k of a list of symbols.
func (w wanted) first(symbols []int) words {
	all := words{"": true}
	for _, symbol := range symbols {
		all = joined(w.g.K, all, w.firsts[symbol])
	}
	return all
}

// behind returns what is behind a dot of the production p.
func (w wanted) behind(p, dot int) words {
	prod := w.g.Prods[p]
	return joined(w.g.K, w.first(prod.Right[dot:]), w.follows[prod.Left])
}

// wantList is what is to be returned of w: not more than 600 looks.
func wantList(w words) ([]api.Look, api.Errno) {
	if len(w) > 600 {
		return nil, api.ErrStrings
	}
	return looks(w), api.OK
}

// isOf demands that Of says this.
func isOf(t *testing.T, g api.Grammar, symbol int, want []api.Look, err api.Errno) {
	t.Helper()
	if l, e := follow.Of(g, symbol); !slices.Equal(l, want) || e != err {
		t.Errorf("Of(%v, %v): %s, %v, not %s, %v", g, symbol, show(l), e, show(want), err)
	}
}

// isHas demands that Has says this.
func isHas(t *testing.T, g api.Grammar, symbol int, x api.Look, want bool, err api.Errno) {
	t.Helper()
	if is, e := follow.Has(g, symbol, x); is != want || e != err {
		t.Errorf("Has(%v, %v, %v): %v, %v, not %v, %v", g, symbol, x, is, e, want, err)
	}
}

// isEnds demands that Ends says this.
func isEnds(t *testing.T, g api.Grammar, symbol int, want bool, err api.Errno) {
	t.Helper()
	if is, e := follow.Ends(g, symbol); is != want || e != err {
		t.Errorf("Ends(%v, %v): %v, %v, not %v, %v", g, symbol, is, e, want, err)
	}
}

// isUses demands that Uses says this.
func isUses(t *testing.T, g api.Grammar, symbol int, want []api.Spot, err api.Errno) {
	t.Helper()
	if l, e := follow.Uses(g, symbol); !slices.Equal(l, want) || e != err {
		t.Errorf("Uses(%v, %v): %v, %v, not %v, %v", g, symbol, l, e, want, err)
	}
}

// isBehind demands that Behind says this.
func isBehind(t *testing.T, g api.Grammar, p, dot int, want []api.Look, err api.Errno) {
	t.Helper()
	if l, e := follow.Behind(g, p, dot); !slices.Equal(l, want) || e != err {
		t.Errorf("Behind(%v, %d, %d): %s, %v, not %s, %v", g, p, dot, show(l), e, show(want), err)
	}
}

// isAll demands that All says this.
func isAll(t *testing.T, g api.Grammar, want [][]api.Look, nonterm int, err api.Errno) {
	t.Helper()
	if l, n, e := follow.All(g); !slices.EqualFunc(l, want, slices.Equal[[]api.Look]) || n != nonterm || e != err {
		t.Errorf("All(%v): %v, %d, %v, not %v, %d, %v", g, l, n, e, want, nonterm, err)
	}
}

// isFollow demands of Of and Ends that FOLLOW_k of a nonterminal is w.
func isFollow(t *testing.T, g api.Grammar, symbol int, w words) {
	t.Helper()
	l, e := wantList(w)
	isOf(t, g, symbol, l, e)
	isEnds(t, g, symbol, w[""], api.OK)
}

// isWantedAll demands of All what the second way says.
func isWantedAll(t *testing.T, g api.Grammar, w wanted) {
	t.Helper()
	var all [][]api.Look
	for i := range g.Names {
		l, e := wantList(w.follows[16+i])
		if e != api.OK {
			isAll(t, g, nil, i, e)
			return
		}
		all = append(all, l)
	}
	isAll(t, g, all, 0, api.OK)
}

// isWantedBehind demands of Behind what the second way says.
func isWantedBehind(t *testing.T, g api.Grammar, p, dot int, w wanted) {
	t.Helper()
	l, e := wantList(w.behind(p, dot))
	isBehind(t, g, p, dot, l, e)
}

// isWanted demands of All, Of, Ends and Behind what the second way says.
func isWanted(t *testing.T, g api.Grammar) {
	t.Helper()
	w := want(g)
	isWantedAll(t, g, w)
	for symbol := 16; symbol < 16+len(g.Names); symbol++ {
		isFollow(t, g, symbol, w.follows[symbol])
	}
	for p := range g.Prods {
		for dot := range len(g.Prods[p].Right) + 1 {
			isWantedBehind(t, g, p, dot, w)
		}
	}
}

// isWrongSymbol demands of all functions with a nonterminal that they return err, with x for Has.
func isWrongSymbol(t *testing.T, g api.Grammar, symbol int, x api.Look, err api.Errno) {
	t.Helper()
	isOf(t, g, symbol, nil, err)
	isHas(t, g, symbol, x, false, err)
	isEnds(t, g, symbol, false, err)
	isUses(t, g, symbol, nil, err)
}

// of returns what Of says of a nonterminal, which must be a set that is right for g.
func of(t *testing.T, g api.Grammar, symbol int) []api.Look {
	t.Helper()
	l, e := follow.Of(g, symbol)
	if e != api.OK || lookset.Check(len(g.Tokens), l) != api.OK {
		t.Fatalf("Of(%v, %v): %s, %v", g, symbol, show(l), e)
	}
	return l
}

// same demands that two sets are equal.
func same(t *testing.T, g api.Grammar, why string, a, b []api.Look) {
	t.Helper()
	if !slices.Equal(a, b) {
		t.Errorf("%v: %s: %s is not %s", g, why, show(a), show(b))
	}
}

// The rows of the examples.
func TestExamples(t *testing.T) {
	g := example(t)
	isOf(t, g, 16, set("- 1 11"), api.OK)
	isOf(t, g, 17, set("- 1 11"), api.OK)
	isEnds(t, g, 17, true, api.OK)
	isUses(t, g, 16, []api.Spot{{Prod: 0, Dot: 1}}, api.OK)
	isUses(t, g, 17, []api.Spot{{Prod: 1, Dot: 0}}, api.OK)
	isBehind(t, g, 0, 2, set("1 11"), api.OK)
	isBehind(t, g, 0, 1, set("00 01 02 1 11 21"), api.OK)
	isOf(t, g, 0, nil, api.ErrSymbol)
	isOf(t, g, 18, nil, api.ErrSymbol)
	isBehind(t, g, 4, 0, nil, api.ErrRange)
	isBehind(t, g, 0, 4, nil, api.ErrRange)
	isAll(t, g, [][]api.Look{set("- 1 11"), set("- 1 11")}, 0, api.OK)
}

// P16.1, P16.2, P16.3: All, Of, Ends and Behind, held against sets of words that grow as a whole.
func TestSecondWay(t *testing.T) {
	sizes := map[int]int{}
	for _, g := range grammars(t) {
		if e := grammar.Check(g); e != api.OK {
			t.Fatalf("%v: %v", g, e)
		}
		isWanted(t, g)
		for i, w := 0, want(g); i < len(g.Names); i++ {
			sizes[min(len(w.follows[16+i]), 20)]++
		}
	}
	if len(sizes) < 18 || sizes[0] < 50 || sizes[1] < 50 || sizes[20] < 20 {
		t.Errorf("the sets are too much alike: %v", sizes)
	}
}

// P16.2: Has, for all looks that are right for the grammar, also those with more than k terminals.
func TestHasOfAllLooks(t *testing.T) {
	r := rand.New(rand.NewSource(1620))
	count := map[bool]int{}
	for range 60 {
		g := random(r, 1+r.Intn(4), 1+r.Intn(2), 1+r.Intn(3), 3+r.Intn(6), 4)
		for symbol := 16; symbol < 16+len(g.Names); symbol++ {
			in := want(g).follows[symbol]
			for word := range universe(len(g.Tokens), 4) {
				isHas(t, g, symbol, plain(word), in[word], api.OK)
				count[in[word]]++
			}
		}
	}
	if count[true] < 200 || count[false] < 200 {
		t.Errorf("the looks are too much alike: %v", count)
	}
}

// P16.2: the uses of all nonterminals, found in the right sides one by one.
func TestUsesOfAllNonterminals(t *testing.T) {
	count := map[int]int{}
	for _, g := range grammars(t) {
		places := map[int][]api.Spot{}
		for p := range g.Prods {
			for dot, symbol := range g.Prods[p].Right {
				places[symbol] = append(places[symbol], api.Spot{Prod: p, Dot: dot})
			}
		}
		for symbol := 16; symbol < 16+len(g.Names); symbol++ {
			isUses(t, g, symbol, places[symbol], api.OK)
			count[min(len(places[symbol]), 5)]++
		}
	}
	if len(count) < 6 || count[0] < 50 || count[5] < 50 {
		t.Errorf("the uses are too much alike: %v", count)
	}
}

// forms returns a form and all those that are derived from it by forms of at most width symbols, any nonterminal being replaced each time. A symbol is written as the rune that is so many behind 0.
func forms(g api.Grammar, form string, width int) []string {
	seen, all := map[string]bool{form: true}, []string{form}
	for i := 0; i < len(all); i++ {
		for at, symbol := range all[i] {
			for _, p := range g.Prods {
				if p.Left != int(symbol-'0') {
					continue
				}
				next := all[i][:at] + written(p.Right) + all[i][at+1:]
				if len(next) <= width && !seen[next] {
					seen[next] = true
					all = append(all, next)
				}
			}
		}
	}
	return all
}

// written returns symbols as the runes of forms.
func written(symbols []int) string {
	var s strings.Builder
	for _, symbol := range symbols {
		s.WriteByte('0' + byte(symbol))
	}
	return s.String()
}

// isNonterm reports whether a rune of a form is a nonterminal.
func isNonterm(r rune) bool { return r >= '0'+16 }

// byForms returns FOLLOW_k of each nonterminal by its definition: from all forms of at most width symbols that the start derives, and from the strings that are derived from what stands there behind nonterminals.
func byForms(g api.Grammar, width int) map[int]words {
	follows, derived := map[int]words{16: {}, 17: {}}, map[string]words{}
	for _, form := range forms(g, written([]int{g.Start}), width) {
		for at, symbol := range form {
			if !isNonterm(symbol) {
				continue
			}
			behind := form[at+1:]
			if derived[behind] == nil {
				derived[behind] = stringsOf(g, behind, width)
			}
			maps.Copy(follows[int(symbol-'0')], derived[behind])
		}
	}
	return follows
}

// stringsOf returns the first k terminals of the strings that a form derives by forms of at most width symbols.
func stringsOf(g api.Grammar, form string, width int) words {
	all := words{}
	for _, s := range forms(g, form, width) {
		if !strings.ContainsFunc(s, isNonterm) {
			all[s[:min(g.K, len(s))]] = true
		}
	}
	return all
}

// rights returns all right sides of at most most symbols of l.
func rights(l []int, most int) [][]int {
	all, last := [][]int{nil}, [][]int{nil}
	for range most {
		var longer [][]int
		for _, right := range last {
			for _, symbol := range l {
				longer = append(longer, append(slices.Clone(right), symbol))
			}
		}
		all, last = append(all, longer...), longer
	}
	return all
}

// P16.2: all grammars of one nonterminal with two short productions, held against the sentential forms themselves.
func TestFormsOfOneNonterminal(t *testing.T) {
	all := rights([]int{0, 1, 16}, 2)
	for k := 1; k <= 2; k++ {
		for i, a := range all {
			for _, b := range all[i:] {
				g := with(k, 2, 1, prod(16, a...), prod(16, b...))
				isFollow(t, g, 16, byForms(g, 6)[16])
			}
		}
	}
}

// P16.2: all grammars of two nonterminals with short productions, of which the second one has one alone, held against the sentential forms themselves.
func TestFormsOfTwoNonterminals(t *testing.T) {
	all := rights([]int{0, 16, 17}, 2)
	for i, a := range all {
		for _, b := range all[i:] {
			for _, c := range all {
				g := with(2, 1, 2, prod(16, a...), prod(16, b...), prod(17, c...))
				w := byForms(g, 6)
				isFollow(t, g, 16, w[16])
				isFollow(t, g, 17, w[17])
			}
		}
	}
}

// P16.2: what stands before a nonterminal may derive nothing, what stands behind it may not, and a nonterminal that no form has has no looks.
func TestNothingIsDerived(t *testing.T) {
	for k := 1; k <= 4; k++ {
		// 17 derives nothing, and nothing leads to 18.
		g := with(k, 2, 4, prod(16, 17, 19, 0), prod(16, 19, 0, 0, 0, 0, 17), prod(16, 1), prod(17, 1, 17), prod(18, 0, 18, 1), prod(18), prod(19, 1, 16))
		isFollow(t, g, 16, words{"": true, "0000"[:k]: true, "000"[:min(k, 3)]: true, "00"[:min(k, 2)]: true, "0": true})
		isFollow(t, g, 17, want(g).follows[17])
		isFollow(t, g, 18, words{})
		isHas(t, g, 18, api.Look{}, false, api.OK)
		isUses(t, g, 18, []api.Spot{{Prod: 4, Dot: 1}}, api.OK)
		for dot := range 4 {
			isBehind(t, g, 4, dot, nil, api.OK)
		}
		for dot := range 2 {
			isBehind(t, g, 3, dot, nil, api.OK)
		}
		for dot := range 6 {
			isBehind(t, g, 1, dot, nil, api.OK)
		}
		isWanted(t, g)
	}
}

// change returns the grammar of the examples with a change.
func change(t *testing.T, f func(g *api.Grammar)) api.Grammar {
	t.Helper()
	g := clone(example(t))
	f(&g)
	return g
}

// P16.1, P16.2, P16.3, R1, R3: all functions tell the error of grammar.Check first, and alone.
func TestGrammarsThatAreNotValid(t *testing.T) {
	for _, c := range []struct {
		g   api.Grammar
		err api.Errno
	}{
		{api.Grammar{}, api.ErrRange},
		{change(t, func(g *api.Grammar) { g.K = 5 }), api.ErrRange},
		{change(t, func(g *api.Grammar) { g.Prods = slices.Repeat(g.Prods, 7) }), api.ErrFull},
		{change(t, func(g *api.Grammar) { g.Tokens = nil }), api.ErrShort},
		{change(t, func(g *api.Grammar) { g.Sep = "Z" }), api.ErrName},
		{change(t, func(g *api.Grammar) { g.Names[1] = "S" }), api.ErrExists},
		{change(t, func(g *api.Grammar) { g.Prods[2].Right[0] = 3 }), api.ErrSymbol},
		{change(t, func(g *api.Grammar) { slices.Reverse(g.Prods) }), api.ErrOrder},
		{change(t, func(g *api.Grammar) { g.Prods = g.Prods[:2] }), api.ErrMissing},
	} {
		isAll(t, c.g, nil, 0, c.err)
		for _, symbol := range []int{16, 17, 0, 99, -1} {
			isWrongSymbol(t, c.g, symbol, api.Look{}, c.err)
			isWrongSymbol(t, c.g, symbol, api.Look{N: 9}, c.err)
			isBehind(t, c.g, symbol, symbol, nil, c.err)
		}
		isBehind(t, c.g, 0, 0, nil, c.err)
	}
}

// P16.2, R1, R3: the symbol is asked before the look.
func TestSymbolsThatAreNotNonterminals(t *testing.T) {
	g := example(t)
	for _, symbol := range append([]int{0, 1, 2, 3, 7, 8, 15, 18, 19, 23}, strange...) {
		isWrongSymbol(t, g, symbol, api.Look{}, api.ErrSymbol)
		isWrongSymbol(t, g, symbol, api.Look{N: 9}, api.ErrSymbol)
	}
	// What is right depends on how many nonterminals there are.
	for nonterms := 1; nonterms <= 8; nonterms++ {
		g := circle(1, 1, 0)
		g.Names, g.Prods = g.Names[:nonterms], g.Prods[:nonterms+1]
		g.Prods[nonterms].Right = nil
		isWanted(t, g)
		isWrongSymbol(t, g, 16+nonterms, api.Look{}, api.ErrSymbol)
	}
}

// P16.2: Has tells what is wrong with the look, whatever FOLLOW_k is.
func TestLooksThatAreNotRight(t *testing.T) {
	g := example(t)
	g.Prods, g.Names = append(g.Prods, prod(18)), append(g.Names, "U")
	for symbol := 16; symbol <= 18; symbol++ {
		for _, n := range append([]int{5, 6, -2}, strange...) {
			isHas(t, g, symbol, api.Look{N: n}, false, api.ErrForm)
			isHas(t, g, symbol, api.Look{S: [4]int{0, 0, 0, n}}, false, api.ErrForm)
			isHas(t, g, symbol, api.Look{N: 2, S: [4]int{8, n, 1}}, false, api.ErrForm)
		}
		for _, term := range append([]int{3, 4, 5, 6, 7, 16, 17}, strange...) {
			isHas(t, g, symbol, api.Look{N: 1, S: [4]int{term}}, false, api.ErrSymbol)
			isHas(t, g, symbol, api.Look{N: 4, S: [4]int{0, 1, 0, term}}, false, api.ErrSymbol)
		}
	}
	// What is right depends on how many terminals there are.
	for terms := 1; terms <= 8; terms++ {
		g := with(1, terms, 1, prod(16, 16, terms-1), prod(16))
		isHas(t, g, 16, plain(strconv.Itoa(terms-1)), true, api.OK)
		isHas(t, g, 16, api.Look{N: 1, S: [4]int{terms}}, false, api.ErrSymbol)
	}
}

// P16.3: the number of a production, and then the dot; each of them from 0 on.
func TestSpotsThatAreNotRight(t *testing.T) {
	g := example(t)
	for _, n := range append([]int{-2, 7, 8, 15, 16, 17}, strange...) {
		for p := range 4 {
			isBehind(t, g, p, n, nil, api.ErrRange)
		}
		for dot := range 4 {
			isBehind(t, g, n, dot, nil, api.ErrRange)
		}
		isBehind(t, g, n, n, nil, api.ErrRange)
	}
	for p, length := range []int{3, 1, 1, 0} {
		isBehind(t, g, p, -1, nil, api.ErrRange)
		isBehind(t, g, p, length, set("- 1 11"), api.OK)
		isBehind(t, g, p, length+1, nil, api.ErrRange)
	}
	// Before the limit of the looks.
	isBehind(t, star(8), 0, 3, nil, api.ErrRange)
	isBehind(t, star(8), 10, 0, nil, api.ErrRange)
}

// star returns a grammar with the lookahead 4 in which the first nonterminal is any number of the second one, which is any terminal.
func star(terms int) api.Grammar {
	g := with(4, terms, 2, prod(16, 17, 16), prod(16))
	for term := range terms {
		g.Prods = append(g.Prods, prod(17, term))
	}
	return g
}

// wide returns a grammar with the lookahead 4 and eight terminals, in which at most three terminals stand behind the last nonterminal, which makes 585 looks, or one of the others.
func wide(others ...[]int) api.Grammar {
	g := with(4, 8, 3, prod(16, 18, 17, 17, 17), prod(16, 18, 17, 17), prod(16, 18, 17), prod(16, 18))
	for _, right := range others {
		g.Prods = append(g.Prods, prod(16, append([]int{18}, right...)...))
	}
	for term := range 8 {
		g.Prods = append(g.Prods, prod(17, term))
	}
	g.Prods = append(g.Prods, prod(18))
	return g
}

// P16.1, P16.2, P16.3: 600 looks are not too many, 601 are.
func TestTooManyLooks(t *testing.T) {
	others := [][]int{{0, 0, 0, 17}, {0, 0, 1, 0}, {0, 0, 1, 1}, {0, 0, 2, 0}, {0, 1, 0, 0}, {1, 0, 0, 0}, {7, 7, 7, 6}, {7, 7, 7, 7}}
	for n, size := range []int{585, 593, 594, 595, 596, 597, 598, 599, 600} {
		g := wide(others[:n]...)
		w := want(g)
		if len(w.follows[18]) != size {
			t.Fatalf("%d looks, not %d", len(w.follows[18]), size)
		}
		isAll(t, g, [][]api.Look{set("-"), looks(w.follows[17]), looks(w.follows[18])}, 0, api.OK)
		isOf(t, g, 18, looks(w.follows[18]), api.OK)
		isBehind(t, g, len(g.Prods)-1, 0, looks(w.follows[18]), api.OK)
	}
	g := wide(append(others, []int{7, 7, 6, 7})...)
	isOf(t, g, 16, set("-"), api.OK)
	isOf(t, g, 18, nil, api.ErrStrings)
	isBehind(t, g, len(g.Prods)-1, 0, nil, api.ErrStrings)
	isBehind(t, g, 4, 0, looks(begun("000", 8))[1:], api.OK)
	isAll(t, g, nil, 2, api.ErrStrings)
	isHas(t, g, 18, plain("7767"), true, api.OK)
	isHas(t, g, 18, plain("7766"), false, api.OK)
	isEnds(t, g, 18, true, api.OK)
	// Not what is behind one use counts, but what is behind all of them, and behind the spot that is asked for.
	g.Prods = append(g.Prods, prod(18, 7, 7, 7))
	isBehind(t, g, len(g.Prods)-1, 0, looks(begun("777", 8)), api.OK)
	isBehind(t, g, len(g.Prods)-1, 1, looks(begun("77", 8)), api.OK)
	isBehind(t, g, len(g.Prods)-1, 2, looks(begun("7", 8)), api.OK)
	isBehind(t, g, len(g.Prods)-1, 3, nil, api.ErrStrings)
}

// P16.1, R3: All tells the first nonterminal that has too many looks, and no sets.
func TestFirstNonterminalWithTooManyLooks(t *testing.T) {
	for n := 1; n < 7; n++ {
		// The last nonterminal is any string of five terminals, which makes 781 looks; behind the first ones there is less room.
		g := with(4, 5, 8)
		for i := 1; i < n; i++ {
			g.Prods = append(g.Prods, prod(16, 16+i, 0, 23))
		}
		for i := n; i < 7; i++ {
			g.Prods = append(g.Prods, prod(16, 16+i, 23))
		}
		for i := 1; i < 7; i++ {
			g.Prods = append(g.Prods, prod(16+i, 4))
		}
		g.Prods = append(g.Prods, prod(23))
		for term := range 5 {
			g.Prods = append(g.Prods, prod(23, term, 23))
		}
		isAll(t, g, nil, n, api.ErrStrings)
		isOf(t, g, 16, set("-"), api.OK)
		isOf(t, g, 23, set("-"), api.OK)
		for i := 1; i < n; i++ {
			isFollow(t, g, 16+i, begun("0", 5))
		}
		for i := n; i < 7; i++ {
			isFollow(t, g, 16+i, universe(5, 4))
		}
	}
	// Also if it is the first of all.
	g := star(5)
	g.Start, g.Prods[0].Right = 17, []int{16, 17}
	g.Prods = append(g.Prods, prod(17, 16, 17))
	isAll(t, g, nil, 0, api.ErrStrings)
}

// P16.2, P16.3: what is computed on the way has no limit: FIRST_k of parts may have more than 600 looks.
func TestPartsHaveNoLimit(t *testing.T) {
	// 17 is any string of eight terminals, and stands before and behind 18.
	g := with(4, 8, 3, prod(16, 17, 18, 0, 1, 17), prod(16, 18, 7, 7, 7, 7, 17), prod(16, 17), prod(17))
	for term := range 8 {
		g.Prods = append(g.Prods, prod(17, term, 17))
	}
	g.Prods = append(g.Prods, prod(18), prod(18, 6, 18))
	some := begun("01", 8)
	some["7777"] = true
	isOf(t, g, 18, looks(some), api.OK)
	isOf(t, g, 16, set("-"), api.OK)
	more := begun("01", 8)
	maps.Copy(more, begun("601", 8))
	maps.Copy(more, words{"": true, "6601": true, "6660": true, "6666": true})
	isOf(t, g, 17, looks(more), api.OK)
	isBehind(t, g, 0, 3, looks(begun("1", 8)), api.OK)
	isBehind(t, g, 0, 4, nil, api.ErrStrings)
	isBehind(t, g, 0, 5, set("-"), api.OK)
	isBehind(t, g, 1, 1, set("7777"), api.OK)
	isBehind(t, g, 2, 0, nil, api.ErrStrings)
	isHas(t, g, 18, plain("0177"), true, api.OK)
	isHas(t, g, 18, plain("0"), false, api.OK)
	if _, _, e := first.All(g); e != api.ErrStrings {
		t.Errorf("first.All: %v", e)
	}
}

// longOnes are grammars with the lookahead 4, in which a nonterminal has more than 600 looks in its FIRST_k; some of them are left recursive, and some nonterminals derive nothing.
func longOnes() []api.Grammar {
	l := []api.Grammar{
		// Any string, made from its beginning, from its end, and from its middle.
		star(5),
		{Prods: []api.Prod{prod(16, 16, 17), prod(16)}},
		{Prods: []api.Prod{prod(16, 16, 16), prod(16), prod(16, 17)}},
		// Strings by nonterminals that can be empty, behind each other and in a circle.
		{Prods: []api.Prod{prod(16, 18, 18, 17, 18), prod(18, 19, 17), prod(18), prod(19, 18, 17), prod(19, 20), prod(20, 20, 0), prod(20, 16)}},
		// Some parts derive nothing.
		{Prods: []api.Prod{prod(16, 18, 17, 19), prod(16, 17, 18), prod(18, 17, 18, 17), prod(18), prod(19, 19, 18), prod(19, 1, 19)}},
		// No string is empty, and none has fewer than two terminals.
		{Prods: []api.Prod{prod(16, 17, 17), prod(16, 18, 16), prod(16, 16, 18), prod(18, 17, 17, 18), prod(18, 17)}},
	}
	for i := range l {
		g := with(4, 5, 8)
		for _, p := range l[i].Prods {
			if p.Left != 17 {
				g.Prods = append(g.Prods, p)
			}
		}
		for term := range 5 {
			g.Prods = append(g.Prods, prod(17, term))
		}
		for left := 18; left < 24; left++ {
			if !slices.ContainsFunc(g.Prods, func(p api.Prod) bool { return p.Left == left }) {
				g.Prods = append(g.Prods, prod(left, 0, 16, left-1))
			}
		}
		slices.SortStableFunc(g.Prods, func(a, b api.Prod) int { return a.Left - b.Left })
		l[i] = g
	}
	return l
}

// anyLongOne returns a grammar at random with the lookahead 4, in which the last nonterminal is any string of five terminals, which makes 781 looks, and the others seldom have it.
func anyLongOne(r *rand.Rand) api.Grammar {
	nonterms := 2 + r.Intn(3)
	g := random(r, 4, 5, nonterms, 2*nonterms+r.Intn(2*nonterms), 3)
	last := 16 + nonterms
	for _, p := range g.Prods {
		for dot := range p.Right {
			if r.Intn(20) == 0 {
				p.Right[dot] = last
			}
		}
	}
	g.Names = append(g.Names, "Last")
	g.Prods = append(g.Prods, prod(last))
	for term := range 5 {
		g.Prods = append(g.Prods, prod(last, term, last))
	}
	return g
}

// P16.1, P16.2, P16.3: all functions, where FIRST_k of a nonterminal has more than 600 looks, that of others having few.
func TestSecondWayBesideManyLooks(t *testing.T) {
	r := rand.New(rand.NewSource(1613))
	sizes := map[int]int{}
	for range 40 {
		g := anyLongOne(r)
		if _, _, e := first.All(g); e != api.ErrStrings {
			t.Fatalf("%v: %v", g, e)
		}
		w := want(g)
		isWantedAll(t, g, w)
		for range 3 {
			p := r.Intn(len(g.Prods))
			isWantedBehind(t, g, p, r.Intn(len(g.Prods[p].Right)+1), w)
		}
		for i := range g.Names {
			sizes[min(len(w.follows[16+i]), 2)]++
			if len(w.follows[16+i]) > 600 {
				sizes[601]++
			}
		}
	}
	if sizes[0] < 20 || sizes[1] < 20 || sizes[2] < 50 || sizes[601] < 20 || sizes[601] > sizes[2]-20 {
		t.Errorf("the sets are too much alike: %v", sizes)
	}
}

// P16.1, P16.2, P16.3: all functions, where FIRST_k of nonterminals has more than 600 looks, held against the second way.
func TestSecondWayWithoutLimit(t *testing.T) {
	r := rand.New(rand.NewSource(1612))
	for _, g := range longOnes() {
		if _, _, e := first.All(g); e != api.ErrStrings {
			t.Fatalf("%v: %v", g, e)
		}
		for symbol := 16; symbol < 24; symbol += 3 {
			g.Start = symbol
			w := want(g)
			isWantedAll(t, g, w)
			isFollow(t, g, symbol, w.follows[symbol])
			p := r.Intn(len(g.Prods))
			isWantedBehind(t, g, p, r.Intn(len(g.Prods[p].Right)+1), w)
		}
	}
}

// great returns a grammar with as much of everything as there may be: each nonterminal derives all strings, in as many ways as possible.
func great() api.Grammar {
	g := with(4, 8, 8)
	for i := range 8 {
		var others []int
		for by := 1; by <= 6; by++ {
			others = append(others, 16+(i+by)%8)
		}
		g.Prods = append(g.Prods, prod(16+i), prod(16+i, others...), prod(16+i, slices.Replace(slices.Clone(others), 0, 1, i)...))
	}
	return g
}

// P1: the greatest grammar.
func TestGreatGrammar(t *testing.T) {
	g := great()
	if e := grammar.Check(g); e != api.OK {
		t.Fatal(e)
	}
	isAll(t, g, nil, 0, api.ErrStrings)
	for k := 1; k <= 3; k++ {
		g.K = k
		isAll(t, g, slices.Repeat([][]api.Look{looks(universe(8, k))}, 8), 0, api.OK)
	}
}

// P16.4: FOLLOW_k is what is behind all uses, with the dot moved behind them, and the look without terminals for the start.
func TestWhatIsBehindUses(t *testing.T) {
	for _, g := range grammars(t) {
		for symbol := 16; symbol < 16+len(g.Names); symbol++ {
			at, e := follow.Uses(g, symbol)
			sets := [][]api.Look{nil}
			if symbol == g.Start {
				sets = append(sets, set("-"))
				isEnds(t, g, symbol, true, api.OK)
			}
			for _, spot := range at {
				l, e := follow.Behind(g, spot.Prod, spot.Dot+1)
				if e != api.OK {
					t.Fatalf("%v: %v", g, e)
				}
				sets = append(sets, l)
			}
			all, f := lookset.Union(len(g.Tokens), sets...)
			if e != api.OK || f != api.OK {
				t.Fatalf("%v: %v, %v", g, e, f)
			}
			same(t, g, "union", of(t, g, symbol), all)
		}
	}
}

// The term 'what is behind a Spot': FIRST_k of the symbols behind the dot, and then FOLLOW_k of the left side.
func TestWhatIsBehindSpots(t *testing.T) {
	for _, g := range grammars(t) {
		for p, x := range g.Prods {
			ends := of(t, g, x.Left)
			for dot := range len(x.Right) + 1 {
				a, e := first.Of(g, x.Right[dot:])
				l, f := lookset.Sum(len(g.Tokens), g.K, a, ends)
				if e != api.OK || f != api.OK {
					t.Fatalf("%v: %v, %v", g, e, f)
				}
				isBehind(t, g, p, dot, l, api.OK)
			}
		}
	}
}

// P16.5: FOLLOW_k for a lesser lookahead are the looks cut to it.
func TestLesserLookahead(t *testing.T) {
	for _, g := range grammars(t) {
		for k := 1; k <= g.K; k++ {
			h := clone(g)
			h.K = k
			for symbol := 16; symbol < 16+len(g.Names); symbol++ {
				shorter, e := lookset.Cut(len(g.Tokens), k, of(t, g, symbol))
				if e != api.OK {
					t.Fatalf("%v: %v", g, e)
				}
				same(t, h, "cut", of(t, h, symbol), shorter)
			}
		}
	}
}

// place is a nonterminal of a sentence, and where its part of it ends.
type place struct{ symbol, end int }

// sentence makes a sentence at random, from left to right, and the places of its nonterminals. Behind so many steps it takes the production with the least strings.
func sentence(r *rand.Rand, g api.Grammar, least map[int]int) (string, []place) {
	var s strings.Builder
	var places []place
	steps := 0
	var derive func(symbol int)
	derive = func(symbol int) {
		if symbol < 16 {
			s.WriteByte('0' + byte(symbol))
			return
		}
		var l []api.Prod
		for _, p := range g.Prods {
			if p.Left == symbol && size(p.Right, least) < math.MaxInt32 {
				l = append(l, p)
			}
		}
		p := l[r.Intn(len(l))]
		if steps++; steps > 20 {
			p = slices.MinFunc(l, func(a, b api.Prod) int { return size(a.Right, least) - size(b.Right, least) })
		}
		for _, x := range p.Right {
			derive(x)
		}
		places = append(places, place{symbol, s.Len()})
	}
	derive(g.Start)
	return s.String(), places
}

// size returns how many steps a list of symbols needs at least, or more than there may be.
func size(symbols []int, least map[int]int) int {
	n := 1
	for _, symbol := range symbols {
		if symbol >= 16 {
			n = min(n+least[symbol], math.MaxInt32)
		}
	}
	return n
}

// leastSteps returns how many steps each nonterminal needs at least to derive a string.
func leastSteps(g api.Grammar) map[int]int {
	least := map[int]int{}
	for i := range g.Names {
		least[16+i] = math.MaxInt32
	}
	for range g.Names {
		for _, p := range g.Prods {
			least[p.Left] = min(least[p.Left], size(p.Right, least))
		}
	}
	return least
}

// P16.6: what stands behind a nonterminal in the derivation of a sentence is in its FOLLOW_k; and, where all nonterminals derive strings, hardly anything else is.
func TestSentences(t *testing.T) {
	r := rand.New(rand.NewSource(166))
	found, missing := 0, 0
	for _, g := range grammars(t) {
		least := leastSteps(g)
		if slices.Contains(slices.Collect(maps.Values(least)), math.MaxInt32) {
			continue
		}
		follows := map[int]words{}
		for symbol := range 24 {
			follows[symbol] = words{}
		}
		for range 300 {
			s, places := sentence(r, g, least)
			for _, x := range places {
				follows[x.symbol][s[x.end:min(len(s), x.end+g.K)]] = true
			}
		}
		for symbol := 16; symbol < 16+len(g.Names); symbol++ {
			all := of(t, g, symbol)
			for _, x := range looks(follows[symbol]) {
				if !slices.Contains(all, x) {
					t.Errorf("%v: %v stands behind %d", g, x, symbol)
				}
			}
			found += len(follows[symbol])
			missing += len(all) - len(follows[symbol])
		}
	}
	if found < 2000 || missing > found/4 {
		t.Errorf("%d looks are found, %d are not", found, missing)
	}
}

// P16.7: a production more makes no FOLLOW_k smaller.
func TestMoreProductions(t *testing.T) {
	r := rand.New(rand.NewSource(167))
	more := 0
	for _, g := range grammars(t) {
		at := r.Intn(len(g.Prods))
		h := clone(g)
		h.Prods = slices.Insert(h.Prods, at, prod(g.Prods[at].Left, anyRight(r, g, 1, 4)...))
		for symbol := 16; symbol < 16+len(g.Names); symbol++ {
			few, many := of(t, g, symbol), of(t, h, symbol)
			rest, e := lookset.Less(len(g.Tokens), few, many)
			if e != api.OK || len(rest) > 0 {
				t.Errorf("%v: production %d takes %s away from %d, %v", h, at, show(rest), symbol, e)
			}
			more += len(many) - len(few)
		}
	}
	if more < 500 {
		t.Errorf("the productions change too little: %d", more)
	}
}

// R4: arguments stay as they are, and so does the room behind them.
func TestArgumentsStay(t *testing.T) {
	g := clone(example(t))
	room := []int{0, 16, 1, 99}
	g.Prods[0].Right = room[:3]
	g.Prods = append(g.Prods, prod(99, 99))[:4]
	before := clone(g)
	for symbol := 16; symbol <= 17; symbol++ {
		isOf(t, g, symbol, set("- 1 11"), api.OK)
		isHas(t, g, symbol, plain("1"), true, api.OK)
		isEnds(t, g, symbol, true, api.OK)
		isUses(t, g, symbol, []api.Spot{{Prod: symbol - 16, Dot: 17 - symbol}}, api.OK)
	}
	isBehind(t, g, 0, 3, set("- 1 11"), api.OK)
	isAll(t, g, [][]api.Look{set("- 1 11"), set("- 1 11")}, 0, api.OK)
	long := star(5)
	isAll(t, long, nil, 1, api.ErrStrings)
	if !grammar.Same(g, before) || room[3] != 99 || g.Prods[:5][4].Left != 99 || !grammar.Same(long, star(5)) {
		t.Errorf("%v, %v, %v", g, room, long)
	}
}

// R4: results share no memory with other results, nor with sets of the same result.
func TestNothingIsShared(t *testing.T) {
	g := example(t)
	want := set("- 1 11")
	all, _, _ := follow.All(g)
	again, _, _ := follow.All(g)
	alone, _ := follow.Of(g, 16)
	behind, _ := follow.Behind(g, 3, 0)
	for _, l := range [][]api.Look{again[1], alone, behind, all[0]} {
		// Also the room behind the looks.
		l = l[:cap(l)]
		for i := range l {
			l[i] = plain("1111")
		}
	}
	same(t, g, "another set", all[1], want)
	same(t, g, "another result", again[0], want)
	isOf(t, g, 16, want, api.OK)
	isBehind(t, g, 3, 0, want, api.OK)
	isAll(t, g, [][]api.Look{want, want}, 0, api.OK)
	spots, _ := follow.Uses(g, 16)
	spots[0] = api.Spot{Prod: 9}
	isUses(t, g, 16, []api.Spot{{Prod: 0, Dot: 1}}, api.OK)
}

// R4: a nil list and an empty one are equal.
func TestNilAndEmpty(t *testing.T) {
	for _, none := range [][]int{nil, {}} {
		g := change(t, func(g *api.Grammar) { g.Prods[3].Right = none })
		isBehind(t, g, 3, 0, set("- 1 11"), api.OK)
		isAll(t, g, [][]api.Look{set("- 1 11"), set("- 1 11")}, 0, api.OK)
	}
}

// R6: the same arguments lead to the same results each time.
func TestAgain(t *testing.T) {
	g := great()
	g.K = 2
	want := looks(universe(8, 2))
	for range 10 {
		isOf(t, g, 18, want, api.OK)
		isBehind(t, g, 7, 2, want, api.OK)
		isAll(t, g, slices.Repeat([][]api.Look{want}, 8), 0, api.OK)
	}
}

// P1, R5: no argument is too great or too strange.
func TestAllArgumentsAreTaken(t *testing.T) {
	r := rand.New(rand.NewSource(1))
	pick := func() int { return strange[r.Intn(len(strange))] }
	count := map[api.Errno]int{}
	for range 1500 {
		g := random(r, 1+r.Intn(4), 1+r.Intn(3), 1+r.Intn(3), 3+r.Intn(6), 4)
		symbol, at, dot := 16+r.Intn(len(g.Names)), r.Intn(len(g.Prods)), r.Intn(3)
		x := api.Look{N: r.Intn(3)}
		p := &g.Prods[at]
		switch r.Intn(9) {
		case 0:
			g.K = pick()
		case 1:
			g.Start = pick()
		case 2:
			p.Left = pick()
		case 3:
			p.Right = append(p.Right, pick())
		case 4:
			symbol = pick()
		case 5:
			x.S[r.Intn(4)] = pick()
		case 6:
			x.N = pick()
		case 7:
			at = pick()
		case 8:
			dot = pick()
		}
		err := grammar.Check(g)
		count[err]++
		if err != api.OK {
			isAll(t, g, nil, 0, err)
			isWrongSymbol(t, g, symbol, x, err)
			isBehind(t, g, at, dot, nil, err)
			continue
		}
		isWanted(t, g)
		w := want(g)
		if symbol < 16 || symbol >= 16+len(g.Names) {
			isWrongSymbol(t, g, symbol, x, api.ErrSymbol)
			count[api.ErrSymbol]++
		} else if e := look.Check(x, len(g.Tokens)); e != api.OK {
			isHas(t, g, symbol, x, false, e)
			count[e]++
		} else {
			isHas(t, g, symbol, x, w.follows[symbol][strings.Repeat("0", x.N)], api.OK)
		}
		if at < 0 || at >= len(g.Prods) || dot < 0 || dot > len(g.Prods[at].Right) {
			isBehind(t, g, at, dot, nil, api.ErrRange)
			count[api.ErrRange]++
		}
	}
	if len(count) < 4 || count[api.OK] < 500 || count[api.ErrSymbol] < 200 || count[api.ErrForm] < 50 || count[api.ErrRange] < 200 {
		t.Errorf("the arguments are too much alike: %v", count)
	}
}
