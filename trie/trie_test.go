package trie_test

import (
	"cmp"
	"fmt"
	"maps"
	"math"
	"math/rand"
	"slices"
	"strconv"
	"strings"
	"testing"

	"stenotype/api"
	"stenotype/grammar"
	"stenotype/predict"
	"stenotype/source"
	"stenotype/trie"
)

// strange are numbers that are no lookaheads, no numbers of terminals or productions, and no nodes.
var strange = []int{math.MinInt, math.MinInt + 1, -(1 << 32), -17, -2, -1, 25, 40, 256, 1 << 16, 1 << 32, 1<<32 + 1, math.MaxInt - 1, math.MaxInt}

// words are strings of terminals, each terminal written as a digit.
type words map[string]bool

// plain returns the look that is written as digits, or as - if it has no terminals, without the program.
func plain(word string) api.Look {
	var x api.Look
	for _, digit := range strings.Trim(word, "-") {
		x.S[x.N] = int(digit - '0')
		x.N++
	}
	return x
}

// set returns the looks of words that are written side by side, with blanks between them.
func set(text string) []api.Look {
	var l []api.Look
	for _, word := range strings.Fields(text) {
		l = append(l, plain(word))
	}
	return l
}

// sets returns the sets of texts of words.
func sets(texts ...string) [][]api.Look {
	var l [][]api.Look
	for _, text := range texts {
		l = append(l, set(text))
	}
	return l
}

// looks returns the looks of w, in order, which is that of strings of digits.
func looks(w words) []api.Look {
	var l []api.Look
	for _, word := range slices.Sorted(maps.Keys(w)) {
		l = append(l, plain(word))
	}
	return l
}

// cut returns the first n terminals of each word of w.
func cut(w words, n int) words {
	shorter := words{}
	for word := range w {
		shorter[word[:min(n, len(word))]] = true
	}
	return shorter
}

// joined returns the first k terminals of x and then y, for all x of a, none of them longer than k, and y of b.
func joined(k int, a, b words) words {
	all, cuts := words{}, map[int]words{}
	for x := range a {
		if cuts[len(x)] == nil {
			cuts[len(x)] = cut(b, k-len(x))
		}
		for y := range cuts[len(x)] {
			all[x+y] = true
		}
	}
	return all
}

// universe returns all words of at most k terminals.
func universe(terms, k int) words {
	all := words{"": true}
	for range k {
		longer := words{"": true}
		for symbol := range terms {
			for word := range all {
				longer[strconv.Itoa(symbol)+word] = true
			}
		}
		all = longer
	}
	return all
}

// prod returns a production.
func prod(left int, right ...int) api.Prod { return api.Prod{Left: left, Right: right} }

// with returns a grammar with so many terminals and nonterminals, with the start 16.
func with(k, terms, nonterms int, prods ...api.Prod) api.Grammar {
	g := api.Grammar{K: k, Sep: "z", Start: 16, Prods: prods}
	for i := range terms {
		g.Tokens = append(g.Tokens, "t"+strconv.Itoa(i))
	}
	for i := range nonterms {
		g.Names = append(g.Names, "N"+strconv.Itoa(i))
	}
	return g
}

// read returns the grammar of a text.
func read(t *testing.T, text string) api.Grammar {
	t.Helper()
	x, f := source.Parse(text)
	g, e := grammar.Of(x)
	if f != (api.Fault{}) || e != api.OK {
		t.Fatal(text, f, e)
	}
	return g
}

// example returns the grammar of the examples.
func example(t *testing.T) api.Grammar {
	t.Helper()
	return read(t, "lookahead 2; token a, b; separator nl; start S; S = a T | ; T = b S;")
}

// clone returns a grammar that is equal to g, in memory of its own.
func clone(g api.Grammar) api.Grammar {
	h := g
	h.Tokens, h.Names, h.Prods = slices.Clone(g.Tokens), slices.Clone(g.Names), slices.Clone(g.Prods)
	for i := range h.Prods {
		h.Prods[i].Right = slices.Clone(g.Prods[i].Right)
	}
	return h
}

// lookingAt returns g with another lookahead.
func lookingAt(k int, g api.Grammar) api.Grammar {
	h := clone(g)
	h.K = k
	return h
}

// anyRight returns at most most symbols of g; the greater dull is, from 0 to 4, the more of them are terminals.
func anyRight(r *rand.Rand, g api.Grammar, dull, most int) []int {
	var l []int
	for range min(r.Intn(6), 1) * r.Intn(most+1) {
		symbol := 16 + r.Intn(len(g.Names))
		if r.Intn(4) < dull {
			symbol = r.Intn(len(g.Tokens))
		}
		l = append(l, symbol)
	}
	return l
}

// random returns a valid grammar at random with that many terminals, nonterminals and productions, and at most right symbols on a right side.
func random(r *rand.Rand, k, terms, nonterms, prods, right int) api.Grammar {
	g := with(k, terms, nonterms)
	g.Start += r.Intn(nonterms)
	var lefts []int
	for i := range prods {
		left := 16 + r.Intn(nonterms)
		if i < nonterms {
			left = 16 + i
		}
		lefts = append(lefts, left)
	}
	slices.Sort(lefts)
	// With few terminals, few nonterminals derive anything; with many of them, few looks are longer than others.
	dull := 1 + r.Intn(3)
	for _, left := range lefts {
		g.Prods = append(g.Prods, prod(left, anyRight(r, g, dull, right)...))
	}
	return g
}

// sound are texts of grammars that are strong LL(k), but not with a lesser lookahead.
func sound() []string {
	return []string{
		"lookahead 1; token a, b; separator z; start S; S = a S b | ;",
		"lookahead 1; token a, b, c, d, e; separator z; start E; E = T M; M = a T M | ; T = F N; N = b F N | ; F = c E d | e;",
		"lookahead 2; token a, b; separator z; start S; S = a | a b;",
		"lookahead 2; token a, b, c; separator z; start S; S = A S | ; A = a B | a c; B = b | ;",
		"lookahead 3; token a, b; separator z; start S; S = a a S | a a | b;",
		"lookahead 3; token a, b, c; separator z; start S; S = A B a b; A = a b | ; B = c B | ;",
		"lookahead 4; token a, b, c; separator z; start S; S = A A; A = b b b B | b b b a; B = c A | ;",
		"lookahead 4; token a, b; separator z; start S; S = a a a S | a a a b;",
		"lookahead 4; token a, b, c, d, e, f, g, h; separator z; start S; S = X X a a h | ; X = a a g | a a a b | a a a c | d Y; Y = d S b | e f;",
	}
}

// wanted are FIRST_k and FOLLOW_k of all symbols of a grammar, and PRED of its productions, for the second way.
type wanted struct {
	g               api.Grammar
	firsts, follows map[int]words
	preds           []words
}

// want returns FIRST_k and FOLLOW_k of all symbols of g, where whole sets are joined, again and again, until no set grows, and PRED of all productions.
func want(g api.Grammar) wanted {
	w := wanted{g, map[int]words{}, map[int]words{}, nil}
	for symbol := range 24 {
		w.firsts[symbol], w.follows[symbol] = words{}, words{}
	}
	for symbol := range g.Tokens {
		w.firsts[symbol][strconv.Itoa(symbol)] = true
	}
	untilNothingGrows(w.firsts, func() {
		for _, p := range g.Prods {
			maps.Copy(w.firsts[p.Left], w.first(p.Right))
		}
	})
	w.follows[g.Start][""] = true
	untilNothingGrows(w.follows, func() {
		for _, p := range g.Prods {
			for dot, symbol := range p.Right {
				maps.Copy(w.follows[symbol], joined(g.K, w.first(p.Right[dot+1:]), w.follows[p.Left]))
			}
		}
	})
	for _, p := range g.Prods {
		w.preds = append(w.preds, joined(g.K, w.first(p.Right), w.follows[p.Left]))
	}
	return w
}

// untilNothingGrows calls round again and again until no set of m has more words behind a call than before it.
func untilNothingGrows(m map[int]words, round func()) {
	size := func() int {
		n := 0
		for _, w := range m {
			n += len(w)
		}
		return n
	}
	for before := -1; size() > before; {
		before = size()
		round()
	}
}

// first returns FIRST_k of a list of symbols.
func (w wanted) first(symbols []int) words {
	all := words{"": true}
	for _, symbol := range symbols {
		all = joined(w.g.K, all, w.firsts[symbol])
	}
	return all
}

// prods returns the productions of a nonterminal.
func (w wanted) prods(symbol int) []int {
	var l []int
	for p := range w.g.Prods {
		if w.g.Prods[p].Left == symbol {
			l = append(l, p)
		}
	}
	return l
}

// isTooMuch reports whether a set has too many looks.
func (w wanted) isTooMuch() bool {
	for i := range w.g.Names {
		if len(w.firsts[16+i]) > 600 || len(w.follows[16+i]) > 600 {
			return true
		}
	}
	return slices.ContainsFunc(w.preds, func(pred words) bool { return len(pred) > 600 })
}

// trie is what For is to return for the nonterminal with the number n.
func (w wanted) trie(n int) (api.Trie, api.Errno) {
	if w.isTooMuch() {
		return api.Trie{}, api.ErrStrings
	}
	c, err := choice{}, api.OK
	for _, p := range w.prods(16 + n) {
		if len(w.preds[p]) == 0 {
			return api.Trie{}, api.ErrEmpty
		}
		for word := range w.preds[p] {
			if _, is := c[word]; is {
				err = api.ErrConflict
			}
			c[word] = p
		}
	}
	if err != api.OK {
		return api.Trie{}, err
	}
	return c.trie(w.g.K), api.OK
}

// tries is what All is to return.
func (w wanted) tries() ([]api.Trie, api.Errno) {
	var l []api.Trie
	for n := range w.g.Names {
		x, e := w.trie(n)
		if e != api.OK {
			return nil, e
		}
		l = append(l, x)
	}
	return l, api.OK
}

// choice has the production of each string of a trie.
type choice map[string]int

// inOrder returns the strings as Of takes them: by their productions, and those of one production in order.
func (c choice) inOrder() []string {
	l := slices.Sorted(maps.Keys(c))
	slices.SortStableFunc(l, func(a, b string) int { return cmp.Compare(c[a], c[b]) })
	return l
}

// sets returns the sets of c, and their productions.
func (c choice) sets() ([][]api.Look, []int) {
	var sets [][]api.Look
	var prods []int
	for _, word := range c.inOrder() {
		if len(prods) == 0 || prods[len(prods)-1] != c[word] {
			sets, prods = append(sets, nil), append(prods, c[word])
		}
		sets[len(sets)-1] = append(sets[len(sets)-1], plain(word))
	}
	return sets, prods
}

// strings returns all strings of c, in order, and their productions.
func (c choice) strings() ([]api.Look, []int) {
	var l []api.Look
	var prods []int
	for _, word := range slices.Sorted(maps.Keys(c)) {
		l, prods = append(l, plain(word)), append(prods, c[word])
	}
	return l, prods
}

// path returns the places to which a string leads one behind the other, the end being 8.
func path(k int, word string) string {
	if len(word) < k {
		return word + "8"
	}
	return word
}

// beginnings returns the beginnings of all paths of c, each at the number of its node: they are sorted by the first string that has them, and by their lengths.
func (c choice) beginnings(k int) []string {
	first := map[string]int{"": -1}
	for i, word := range c.inOrder() {
		p := path(k, word)
		for n := range p {
			if _, is := first[p[:n+1]]; !is {
				first[p[:n+1]] = i
			}
		}
	}
	return slices.SortedFunc(maps.Keys(first), func(a, b string) int {
		return cmp.Or(cmp.Compare(first[a], first[b]), cmp.Compare(len(a), len(b)))
	})
}

// trie returns the trie of c, without the program.
func (c choice) trie(k int) api.Trie {
	var t api.Trie
	number := map[string]int{}
	for i, begin := range c.beginnings(k) {
		number[begin] = i
		t.Nodes = append(t.Nodes, api.TrieNode{Prod: -1})
		if last := len(begin) - 1; last >= 0 {
			t.Nodes[number[begin[:last]]].Next[begin[last]-'0'] = i
		}
	}
	for word, p := range c {
		t.Nodes[number[path(k, word)]].Prod = p
	}
	return t
}

// choose is what Choose is to return for the trie of c.
func (c choice) choose(k, terms int, l []int, end bool) (int, api.Errno) {
	if slices.ContainsFunc(l, func(symbol int) bool { return symbol < 0 || symbol >= terms }) {
		return 0, api.ErrRange
	}
	if len(l) < k && !end {
		return 0, api.ErrShort
	}
	word := ""
	for _, symbol := range l[:min(k, len(l))] {
		word += strconv.Itoa(symbol)
	}
	if p, is := c[word]; is {
		return p, api.OK
	}
	return 0, api.ErrRule
}

// isValid reports whether t is valid, by what its nodes are, one by one: each of them is met once, has a production just where a path ends, is on some path, and has its number by the order of the paths.
func isValid(k, terms, prods int, t api.Trie) bool {
	number, met, ends := map[string]int{}, map[int]bool{}, choice{}
	var visit func(node int, begin string) bool
	visit = func(node int, begin string) bool {
		if node < 0 || node >= len(t.Nodes) || met[node] {
			return false
		}
		number[begin], met[node] = node, true
		x := t.Nodes[node]
		if word, isEnd := strings.CutSuffix(begin, "8"); isEnd || len(begin) == k {
			ends[word] = x.Prod
			return x.Next == [9]int{} && x.Prod >= 0 && x.Prod < prods
		}
		for place, next := range x.Next {
			if next != 0 && (place >= terms && place != 8 || !visit(next, begin+strconv.Itoa(place))) {
				return false
			}
		}
		return x.Prod == -1 && (node == 0 || x.Next != [9]int{})
	}
	if !visit(0, "") || len(met) != len(t.Nodes) {
		return false
	}
	for i, begin := range ends.beginnings(k) {
		if number[begin] != i {
			return false
		}
	}
	return true
}

// show writes a trie, and no more of it than one wants to read.
func show(t api.Trie) string {
	return fmt.Sprintf("%d nodes %v", len(t.Nodes), t.Nodes[:min(len(t.Nodes), 12)])
}

// isTrie reports whether two tries are equal, without the program.
func isTrie(a, b api.Trie) bool { return slices.Equal(a.Nodes, b.Nodes) }

// isOf demands that Of says this.
func isOf(t *testing.T, k, terms int, sets [][]api.Look, prods []int, want api.Trie, err api.Errno) {
	t.Helper()
	if x, e := trie.Of(k, terms, sets, prods); !isTrie(x, want) || e != err {
		t.Errorf("Of(%d, %d, %.300v, %v): %s, %v, not %s, %v", k, terms, fmt.Sprint(sets), prods, show(x), e, show(want), err)
	}
}

// isFor demands that For says this.
func isFor(t *testing.T, g api.Grammar, nonterm int, want api.Trie, err api.Errno) {
	t.Helper()
	if x, e := trie.For(g, nonterm); !isTrie(x, want) || e != err {
		t.Errorf("For(%v, %d): %s, %v, not %s, %v", g, nonterm, show(x), e, show(want), err)
	}
}

// isAll demands that All says this.
func isAll(t *testing.T, g api.Grammar, want []api.Trie, err api.Errno) {
	t.Helper()
	if l, e := trie.All(g); !slices.EqualFunc(l, want, isTrie) || e != err {
		t.Errorf("All(%v): %d tries, %v, not %d, %v", g, len(l), e, len(want), err)
	}
}

// isCheck demands that Check says this.
func isCheck(t *testing.T, k, terms, prods int, x api.Trie, err api.Errno) {
	t.Helper()
	if e := trie.Check(k, terms, prods, x); e != err {
		t.Errorf("Check(%d, %d, %d, %s): %v, not %v", k, terms, prods, show(x), e, err)
	}
}

// isChoose demands that Choose says this.
func isChoose(t *testing.T, k, terms int, x api.Trie, l []int, end bool, want int, err api.Errno) {
	t.Helper()
	if p, e := trie.Choose(k, terms, x, l, end); p != want || e != err {
		t.Errorf("Choose(%d, %d, %s, %v, %v): %d, %v, not %d, %v", k, terms, show(x), l, end, p, e, want, err)
	}
}

// isStrings demands that Strings says this.
func isStrings(t *testing.T, k, terms int, x api.Trie, want []api.Look, prods []int, err api.Errno) {
	t.Helper()
	if l, p, e := trie.Strings(k, terms, x); !slices.Equal(l, want) || !slices.Equal(p, prods) || e != err {
		t.Errorf("Strings(%d, %d, %s): %.300v, %.300v, %v, not %.300v, %.300v, %v", k, terms, show(x), fmt.Sprint(l), fmt.Sprint(p), e, fmt.Sprint(want), fmt.Sprint(prods), err)
	}
}

// isRefused demands of Check, Choose and Strings that they return err for a trie, whatever else there is.
func isRefused(t *testing.T, k, terms int, x api.Trie, err api.Errno) {
	t.Helper()
	isCheck(t, k, terms, 24, x, err)
	isStrings(t, k, terms, x, nil, nil, err)
	for _, l := range [][]int{nil, {0}, {0, 0, 0, 0}, {-1}, {9}} {
		isChoose(t, k, terms, x, l, false, 0, err)
		isChoose(t, k, terms, x, l, true, 0, err)
	}
}

// isMade demands of all functions but Choose what the second way says of c.
func isMade(t *testing.T, k, terms int, c choice) {
	t.Helper()
	want := c.trie(k)
	sets, prods := c.sets()
	isOf(t, k, terms, sets, prods, want, api.OK)
	isCheck(t, k, terms, 24, want, api.OK)
	l, all := c.strings()
	isStrings(t, k, terms, want, l, all, api.OK)
	if n := trie.Size(want); n != len(c.beginnings(k)) {
		t.Errorf("Size(%s): %d", show(want), n)
	}
}

// isChosen demands of Choose what the second way says of c.
func isChosen(t *testing.T, k, terms int, x api.Trie, c choice, l []int, end bool) api.Errno {
	t.Helper()
	p, e := c.choose(k, terms, l, end)
	isChoose(t, k, terms, x, l, end, p, e)
	return e
}

// shown is the trie of the examples.
func shown() api.Trie { return choice{"00": 3, "01": 3, "": 5, "1": 5}.trie(2) }

// numbers returns the terminals of a word.
func numbers(word string) []int {
	x := plain(word)
	return x.S[:x.N]
}

// anyChoice returns some words of at most k terminals, with at most so many productions.
func anyChoice(r *rand.Rand, k, terms, most int) choice {
	c, prods := choice{}, r.Perm(24)[:most]
	for range 1 + min(r.Intn(60), r.Intn(60)) {
		word := ""
		for range max(r.Intn(k+1), r.Intn(k+1)) {
			word += strconv.Itoa(r.Intn(terms))
		}
		c[word] = prods[r.Intn(most)]
	}
	return c
}

// choices are many choices at random, each with a lookahead and a number of terminals.
func choices(seed int64, many int, f func(r *rand.Rand, k, terms int, c choice)) {
	r := rand.New(rand.NewSource(seed))
	for range many {
		k, terms := 1+max(r.Intn(4), r.Intn(4)), 1+r.Intn(8)
		f(r, k, terms, anyChoice(r, k, terms, 1+r.Intn(24)))
	}
}

// The rows of the examples.
func TestExamples(t *testing.T) {
	x, e := trie.Of(2, 2, sets("00 01", "- 1"), []int{3, 5})
	if e != api.OK || trie.Size(x) != 7 || !isTrie(x, shown()) {
		t.Fatalf("%s, %v", show(x), e)
	}
	isStrings(t, 2, 2, x, set("- 00 01 1"), []int{5, 3, 3, 5}, api.OK)
	isChoose(t, 2, 2, x, []int{0, 1}, false, 3, api.OK)
	isChoose(t, 2, 2, x, []int{0, 1, 1}, true, 3, api.OK)
	isChoose(t, 2, 2, x, nil, true, 5, api.OK)
	isChoose(t, 2, 2, x, []int{1}, true, 5, api.OK)
	isChoose(t, 2, 2, x, []int{0}, false, 0, api.ErrShort)
	isChoose(t, 2, 2, x, []int{0}, true, 0, api.ErrRule)
	isChoose(t, 2, 2, x, []int{1, 0}, false, 0, api.ErrRule)
	isChoose(t, 2, 2, x, []int{2}, true, 0, api.ErrRange)
	isOf(t, 2, 2, sets("0", "0"), []int{3, 5}, api.Trie{}, api.ErrConflict)
	isOf(t, 2, 2, sets("00 01", ""), []int{3, 5}, api.Trie{}, api.ErrEmpty)
	isOf(t, 2, 2, sets("00 01", "- 1"), []int{5, 3}, api.Trie{}, api.ErrOrder)
}

// The term trie: the nodes by their numbers, written out.
func TestNodes(t *testing.T) {
	next := func(edges ...int) (l [9]int) {
		for i := 0; i < len(edges); i += 2 {
			l[edges[i]] = edges[i+1]
		}
		return l
	}
	isOf(t, 2, 2, sets("00 01", "- 1"), []int{3, 5}, api.Trie{Nodes: []api.TrieNode{
		{Next: next(0, 1, 1, 5, 8, 4), Prod: -1}, {Next: next(0, 2, 1, 3), Prod: -1}, {Prod: 3}, {Prod: 3}, {Prod: 5}, {Next: next(8, 6), Prod: -1}, {Prod: 5},
	}}, api.OK)
	isOf(t, 1, 1, nil, nil, api.Trie{Nodes: []api.TrieNode{{Prod: -1}}}, api.OK)
	isOf(t, 4, 8, sets("-"), []int{0}, api.Trie{Nodes: []api.TrieNode{{Next: next(8, 1), Prod: -1}, {}}}, api.OK)
	isOf(t, 1, 8, sets("7", "- 0"), []int{22, 23}, api.Trie{Nodes: []api.TrieNode{{Next: next(7, 1, 8, 2, 0, 3), Prod: -1}, {Prod: 22}, {Prod: 23}, {Prod: 23}}}, api.OK)
	isOf(t, 3, 8, sets("7 707", "700 77"), []int{0, 9}, api.Trie{Nodes: []api.TrieNode{
		{Next: next(7, 1), Prod: -1}, {Next: next(8, 2, 0, 3, 7, 6), Prod: -1}, {Prod: 0}, {Next: next(7, 4, 0, 5), Prod: -1}, {Prod: 0}, {Prod: 9}, {Next: next(8, 7), Prod: -1}, {Prod: 9},
	}}, api.OK)
}

// P18.1, P18.3, P18.4, P18.6: all tries of few strings, held against nodes that are sorted by their paths.
func TestAllSmallTries(t *testing.T) {
	for _, c := range []struct{ k, terms, prods int }{{1, 1, 3}, {1, 2, 3}, {1, 3, 3}, {2, 1, 3}, {2, 2, 2}, {3, 1, 3}, {4, 1, 2}} {
		all := slices.Sorted(maps.Keys(universe(c.terms, c.k)))
		for n := range int(math.Pow(float64(c.prods+1), float64(len(all)))) {
			x := choice{}
			for _, word := range all {
				if n%(c.prods+1) > 0 {
					x[word] = []int{0, 12, 23}[n%(c.prods+1)-1]
				}
				n /= c.prods + 1
			}
			isMade(t, c.k, c.terms, x)
			for _, word := range all {
				isChosen(t, c.k, c.terms, x.trie(c.k), x, numbers(word), true)
			}
		}
	}
}

// P18.1, P18.3, P18.4, P18.6: tries at random, held against nodes that are sorted by their paths.
func TestSecondWay(t *testing.T) {
	sizes, prods := map[int]int{}, map[int]int{}
	choices(181, 400, func(r *rand.Rand, k, terms int, c choice) {
		isMade(t, k, terms, c)
		sizes[len(c.trie(k).Nodes)]++
		_, l := c.sets()
		prods[len(l)]++
	})
	if len(sizes) < 40 || len(prods) < 15 {
		t.Errorf("the tries are too much alike: %v, %v", sizes, prods)
	}
}

// P18.4, P18.5: Choose, with all lists of few terminals, and with some at random.
func TestChooseSecondWay(t *testing.T) {
	count := map[api.Errno]int{}
	choices(185, 300, func(r *rand.Rand, k, terms int, c choice) {
		x := c.trie(k)
		for word := range c {
			l := numbers(word)
			count[isChosen(t, k, terms, x, c, l, true)]++
			count[isChosen(t, k, terms, x, c, l, false)]++
			count[isChosen(t, k, terms, x, c, append(l, r.Intn(terms)), r.Intn(2) == 0)]++
		}
		for range 30 {
			var l []int
			for range r.Intn(6) {
				l = append(l, r.Intn(terms+1)-r.Intn(30)/29)
			}
			count[isChosen(t, k, terms, x, c, l, r.Intn(2) == 0)]++
		}
	})
	if count[api.OK] < 2000 || count[api.ErrRule] < 1000 || count[api.ErrShort] < 1000 || count[api.ErrRange] < 1000 || len(count) != 4 {
		t.Errorf("the lists are too much alike: %v", count)
	}
}

// call are the arguments of Of.
type call struct {
	k, terms int
	sets     [][]api.Look
	prods    []int
}

// wrong is a change that makes arguments of Of wrong, and the error that it leads to.
type wrong struct {
	err    api.Errno
	change func(c *call)
}

// wrongs are changes in the order of their errors: all of one list change the same part. The strings of a set that are right stay so if another part is changed.
func wrongs() [][]wrong {
	l := [][]wrong{{
		{api.ErrRange, func(c *call) { c.k = 0 }}, {api.ErrRange, func(c *call) { c.k = 5 }},
	}, {
		{api.ErrRange, func(c *call) { c.terms = 0 }}, {api.ErrRange, func(c *call) { c.terms = 9 }},
	}, {
		{api.ErrRange, func(c *call) { c.prods = append(c.prods, 23) }}, {api.ErrRange, func(c *call) { c.sets = append(c.sets, set("22")) }}, {api.ErrRange, func(c *call) { c.prods = c.prods[:2] }},
		{api.ErrRange, func(c *call) { c.sets, c.prods = slices.Repeat(c.sets[:1], 25), make([]int, 25) }}, {api.ErrRange, func(c *call) { c.sets = nil }},
	}, {
		{api.ErrOrder, func(c *call) { c.prods[0] = -1 }}, {api.ErrOrder, func(c *call) { c.prods[0] = 5 }}, {api.ErrOrder, func(c *call) { c.prods[0] = 4 }}, {api.ErrOrder, func(c *call) { c.prods[1] = 20 }},
		{api.ErrOrder, func(c *call) { c.prods[len(c.prods)-1] = 24 }}, {api.ErrOrder, func(c *call) { c.prods[1] = math.MinInt }}, {api.ErrOrder, func(c *call) { c.prods[1] = math.MaxInt }},
	}}
	for i := range 3 {
		l = append(l, wrongSet(i))
	}
	return append(l, []wrong{{api.ErrConflict, func(c *call) { c.sets[len(c.sets)-1] = set("02") }}, {api.ErrConflict, func(c *call) { c.sets[len(c.sets)-1] = set("- 12") }}, {api.ErrConflict, func(c *call) { c.sets[1] = set("02 1") }}})
}

// wrongSet are changes of the set with the number i, which is of strings of 0 to 2.
func wrongSet(i int) []wrong {
	var l []wrong
	for _, x := range []struct {
		err api.Errno
		set []api.Look
	}{
		{api.ErrEmpty, nil}, {api.ErrForm, []api.Look{{N: 5}}}, {api.ErrForm, []api.Look{{N: -1}}}, {api.ErrForm, []api.Look{{S: [4]int{1}}}}, {api.ErrSymbol, set("3")}, {api.ErrSymbol, []api.Look{{N: 1, S: [4]int{-1}}}},
		{api.ErrRange, set("000")}, {api.ErrOrder, set("00 00")}, {api.ErrOrder, set("1 0")}, {api.ErrOrder, set("00 0")}, {api.ErrOrder, set("0 -")}, {api.ErrOrder, set("0 1 2 -")},
		// Both a string and the next one, or two errors of one string.
		{api.ErrOrder, set("1 0 3")}, {api.ErrRange, set("1 000 3")}, {api.ErrSymbol, set("3 000")}, {api.ErrSymbol, set("0 003")}, {api.ErrSymbol, set("1 03")}, {api.ErrRange, set("1 000")}, {api.ErrForm, []api.Look{{N: 3, S: [4]int{7, 7, 7, 7}}}},
	} {
		l = append(l, wrong{x.err, func(c *call) { c.sets[i] = x.set }})
	}
	return l
}

// right are arguments of Of that are right.
func right() call {
	return call{2, 3, sets("- 02", "1 10 12", "2 20"), []int{3, 4, 20}}
}

// P18.1, R1, R3: the errors of Of, each alone and each pair of two, of which the first one counts.
func TestErrorsOfOf(t *testing.T) {
	c := right()
	isOf(t, c.k, c.terms, c.sets, c.prods, choice{"": 3, "02": 3, "1": 4, "10": 4, "12": 4, "2": 20, "20": 20}.trie(2), api.OK)
	all := wrongs()
	for i, first := range all {
		for _, a := range first {
			c := right()
			a.change(&c)
			isOf(t, c.k, c.terms, c.sets, c.prods, api.Trie{}, a.err)
			for _, second := range all[i+1:] {
				for _, b := range second {
					c := right()
					b.change(&c)
					if len(c.sets) < 3 || len(c.prods) < 3 {
						continue
					}
					a.change(&c)
					isOf(t, c.k, c.terms, c.sets, c.prods, api.Trie{}, a.err)
				}
			}
		}
	}
}

// P18.1: numbers of any value, and the greatest ones that are right.
func TestNumbersOfOf(t *testing.T) {
	for _, n := range append([]int{0, 5, 9}, strange...) {
		isOf(t, n, 1, nil, nil, api.Trie{}, map[bool]api.Errno{true: api.ErrRange}[n < 1 || n > 4])
		isOf(t, n, n, sets("0"), []int{0}, api.Trie{}, api.ErrRange)
		if n < 1 || n > 8 {
			isOf(t, 1, n, nil, nil, api.Trie{}, api.ErrRange)
		}
		if n < 0 || n > 23 {
			isOf(t, 1, 1, sets("0"), []int{n}, api.Trie{}, api.ErrOrder)
		}
	}
	for k := 1; k <= 4; k++ {
		for terms := 1; terms <= 8; terms++ {
			longest := strings.Repeat(strconv.Itoa(terms-1), k)
			isMade(t, k, terms, choice{"": 0, longest: 23})
			if k < 4 {
				isOf(t, k, terms, sets(longest+"0"), []int{0}, api.Trie{}, api.ErrRange)
			}
			if terms < 8 {
				isOf(t, k, terms, sets(strconv.Itoa(terms)), []int{0}, api.Trie{}, api.ErrSymbol)
			}
		}
	}
	c := choice{}
	for p := range 24 {
		c[strconv.Itoa(p%8)+strconv.Itoa(p/8)] = p
	}
	isMade(t, 2, 8, c)
	all, prods := c.sets()
	isOf(t, 2, 8, append(all, set("77")), append(prods, 24), api.Trie{}, api.ErrRange)
	isOf(t, 2, 8, all, prods[:23], api.Trie{}, api.ErrRange)
}

// P18.1: a string of two sets, wherever they and it stand; a beginning of a string is another string.
func TestStringsOfTwoSets(t *testing.T) {
	choices(1810, 200, func(r *rand.Rand, k, terms int, c choice) {
		all, prods := c.sets()
		if len(all) < 2 {
			return
		}
		from, to := r.Intn(len(all)), r.Intn(len(all)-1)
		if to >= from {
			to++
		}
		x := all[from][r.Intn(len(all[from]))]
		all[to] = append(all[to], x)
		slices.SortFunc(all[to], func(a, b api.Look) int { return slices.Compare(a.S[:a.N], b.S[:b.N]) })
		isOf(t, k, terms, all, prods, api.Trie{}, api.ErrConflict)
	})
	isMade(t, 2, 2, choice{"0": 0, "00": 1})
	isMade(t, 4, 2, choice{"": 4, "0": 3, "00": 2, "000": 1, "0000": 0})
	isMade(t, 3, 2, choice{"": 4, "0": 3, "00": 2, "000": 1})
	isOf(t, 3, 2, sets("00", "0", "00"), []int{0, 1, 2}, api.Trie{}, api.ErrConflict)
	isOf(t, 2, 2, sets("00", "0", "00"), []int{0, 1, 2}, api.Trie{}, api.ErrConflict)
	isOf(t, 1, 2, sets("-", "-"), []int{0, 1}, api.Trie{}, api.ErrConflict)
}

// P18.3: the numbers that Check takes, and what Choose and Strings do with them.
func TestNumbersOfCheck(t *testing.T) {
	for _, x := range []api.Trie{shown(), {}, choice{}.trie(1)} {
		for _, n := range append([]int{0, 5, 9}, strange...) {
			if n < 1 || n > 4 {
				isRefused(t, n, 2, x, api.ErrRange)
			}
			if n < 1 || n > 8 {
				isRefused(t, 2, n, x, api.ErrRange)
			}
			if n < 0 || n > 24 {
				isCheck(t, 2, 2, n, x, api.ErrRange)
			}
		}
	}
	for prods := range 25 {
		isCheck(t, 1, 1, prods, choice{}.trie(1), api.OK)
		isCheck(t, 1, 1, prods, api.Trie{}, api.ErrForm)
		for p := range 24 {
			isCheck(t, 1, 1, prods, choice{"0": p}.trie(1), map[bool]api.Errno{true: api.ErrForm}[p >= prods])
		}
	}
}

// P18.3: tries that are valid for some numbers, with all others.
func TestOtherNumbers(t *testing.T) {
	count := map[api.Errno]int{}
	choices(183, 150, func(r *rand.Rand, k, terms int, c choice) {
		x := c.trie(k)
		for other := 1; other <= 4; other++ {
			for terms := 1; terms <= 8; terms++ {
				for _, prods := range []int{0, 6, 12, 23, 24} {
					err := api.ErrForm
					if isValid(other, terms, prods, x) {
						err = api.OK
					}
					isCheck(t, other, terms, prods, x, err)
					count[err]++
				}
			}
		}
	})
	if count[api.OK] < 500 || count[api.ErrForm] < 500 {
		t.Errorf("the numbers are too much alike: %v", count)
	}
}

// P18.3: all lists of at most three nodes with few next nodes and productions, held against what nodes must be like.
func TestAllListsOfNodes(t *testing.T) {
	var l []api.TrieNode
	for a := -1; a <= 3; a++ {
		for end := -1; end <= 3; end++ {
			for p := -1; p <= 2; p++ {
				l = append(l, api.TrieNode{Next: [9]int{a, 0, 0, 0, 0, 0, 0, 0, end}, Prod: p})
			}
		}
	}
	check := func(nodes ...api.TrieNode) int {
		x, valid := api.Trie{Nodes: nodes}, 0
		for k := 1; k <= 2; k++ {
			err := api.ErrForm
			if isValid(k, 1, 2, x) {
				err, valid = api.OK, 1
			}
			isCheck(t, k, 1, 2, x, err)
		}
		return valid
	}
	found := check()
	for _, a := range l {
		found += check(a)
		for _, b := range l {
			found += check(a, b)
			// A root that leads nowhere right, or has a production, is found with two nodes already.
			if a.Prod != -1 || a.Next[0] < 0 || a.Next[8] < 0 {
				continue
			}
			for _, c := range l {
				found += check(a, b, c)
			}
		}
	}
	// The root alone; for k 1 one of two strings with one of two productions, or both; for k 2, where the string without terminals is the same trie, one of the two others.
	if found != 1+2*2+2*2+2*2 {
		t.Errorf("%d are valid", found)
	}
}

// changed returns a valid trie with a change at random, which mostly makes it wrong.
func changed(r *rand.Rand, x api.Trie) api.Trie {
	nodes := slices.Clone(x.Nodes)
	i, j := r.Intn(len(nodes)), r.Intn(len(nodes))
	places := []int{r.Intn(9), r.Intn(9)}
	for place, next := range nodes[i].Next {
		if next != 0 {
			places[r.Intn(2)] = place
		}
	}
	a, b := &nodes[i].Next[places[0]], &nodes[i].Next[places[1]]
	switch r.Intn(14) {
	case 0:
		*a = j
	case 1:
		*a = 0
	case 2:
		*a = strange[r.Intn(len(strange))]
	case 3:
		*a = len(nodes)
	case 4:
		*a, *b = *b, *a
	case 5:
		*a, nodes[j].Next[places[1]] = nodes[j].Next[places[1]], *a
	case 6:
		nodes[i].Prod = -1 - nodes[i].Prod/23
	case 7:
		nodes[i].Prod = r.Intn(26) - 1
	case 8:
		nodes[i].Prod = strange[r.Intn(len(strange))]
	case 9:
		nodes[i].Prod, nodes[j].Prod = nodes[j].Prod, nodes[i].Prod
	case 10:
		nodes[i], nodes[j] = nodes[j], nodes[i]
	case 11:
		nodes = append(nodes, nodes[i])
	case 12:
		nodes = nodes[:i]
	case 13:
		nodes = renumbered(nodes, max(1, i), max(1, j))
	}
	return api.Trie{Nodes: nodes}
}

// renumbered returns nodes of which two have got each other's numbers.
func renumbered(nodes []api.TrieNode, i, j int) []api.TrieNode {
	if i >= len(nodes) || j >= len(nodes) {
		return nodes
	}
	nodes[i], nodes[j] = nodes[j], nodes[i]
	for n := range nodes {
		for place, next := range nodes[n].Next {
			if next == i {
				nodes[n].Next[place] = j
			} else if next == j {
				nodes[n].Next[place] = i
			}
		}
	}
	return nodes
}

// P18.3: tries with a change, held against what nodes must be like.
func TestChangedTries(t *testing.T) {
	count := map[bool]int{}
	choices(1830, 400, func(r *rand.Rand, k, terms int, c choice) {
		x := c.trie(k)
		for range 25 {
			y := changed(r, x)
			valid := isValid(k, terms, 24, y)
			count[valid]++
			if valid {
				isCheck(t, k, terms, 24, y, api.OK)
			} else {
				isRefused(t, k, terms, y, api.ErrForm)
			}
		}
	})
	if count[true] < 500 || count[false] < 5000 {
		t.Errorf("the changes are too much alike: %v", count)
	}
}

// P18.3, P1: one change of the trie of the examples each time, of which none leaves it valid.
func TestTriesThatAreNotValid(t *testing.T) {
	for i, change := range []func(l []api.TrieNode) []api.TrieNode{
		func(l []api.TrieNode) []api.TrieNode { return nil },
		func(l []api.TrieNode) []api.TrieNode { return l[:6] },
		func(l []api.TrieNode) []api.TrieNode { return append(l, api.TrieNode{Prod: -1}) },
		func(l []api.TrieNode) []api.TrieNode { return append(l, l[6]) },
		func(l []api.TrieNode) []api.TrieNode { return l[1:] },
		func(l []api.TrieNode) []api.TrieNode { l[0].Next[8] = 0; return l },
		func(l []api.TrieNode) []api.TrieNode { l[0].Next[7] = 5; return l },
		func(l []api.TrieNode) []api.TrieNode { l[0].Next[2] = 6; return l },
		func(l []api.TrieNode) []api.TrieNode { l[2].Next[8] = 6; return l },
		func(l []api.TrieNode) []api.TrieNode { l[4].Next[0] = 3; return l },
		func(l []api.TrieNode) []api.TrieNode { l[1].Next[0] = 0; return l },
		func(l []api.TrieNode) []api.TrieNode { l[1].Next[0] = 1; return l },
		func(l []api.TrieNode) []api.TrieNode { l[1].Next[0] = 3; return l },
		func(l []api.TrieNode) []api.TrieNode { l[1].Next[8] = 7; return l },
		func(l []api.TrieNode) []api.TrieNode { l[1].Next[8] = -1; return l },
		func(l []api.TrieNode) []api.TrieNode { l[5].Next[8] = 4; return l },
		func(l []api.TrieNode) []api.TrieNode { l[5].Next[8] = 0; return l[:6] },
		func(l []api.TrieNode) []api.TrieNode { l[0].Prod = 3; return l },
		func(l []api.TrieNode) []api.TrieNode { l[1].Prod = 3; return l },
		func(l []api.TrieNode) []api.TrieNode { l[1].Prod = -2; return l },
		func(l []api.TrieNode) []api.TrieNode { l[2].Prod = -1; return l },
		func(l []api.TrieNode) []api.TrieNode { l[2].Prod = -2; return l },
		func(l []api.TrieNode) []api.TrieNode { l[6].Prod = 24; return l },
		// The sets would come in another order.
		func(l []api.TrieNode) []api.TrieNode { l[2].Prod = 6; return l },
		func(l []api.TrieNode) []api.TrieNode { l[3].Prod = 23; return l },
		func(l []api.TrieNode) []api.TrieNode { l[4].Prod = 1; return l },
		func(l []api.TrieNode) []api.TrieNode { return renumbered(l, 2, 3) },
		func(l []api.TrieNode) []api.TrieNode { return renumbered(l, 4, 5) },
	} {
		l := change(shown().Nodes)
		if isValid(2, 2, 24, api.Trie{Nodes: l}) {
			t.Errorf("%d is valid", i)
		}
		isRefused(t, 2, 2, api.Trie{Nodes: l}, api.ErrForm)
	}
	// The productions may be others, as long as they ascend.
	for p := range 24 {
		for q := range 24 {
			l := shown().Nodes
			l[2].Prod, l[3].Prod, l[4].Prod, l[6].Prod = p, p, q, q
			isCheck(t, 2, 2, 24, api.Trie{Nodes: l}, map[bool]api.Errno{false: api.ErrForm}[p < q])
		}
	}
}

// P18.4, R1, R3: the error of a terminal counts before that of the end, wherever it stands.
func TestErrorsOfChoose(t *testing.T) {
	x := shown()
	for _, n := range append([]int{2, 7, 8, 16}, strange...) {
		for _, end := range []bool{false, true} {
			for _, l := range [][]int{{n}, {n, 0}, {0, n}, {1, 0, n}, {0, 0, 0, 0, 0, n}, {n, n, n}} {
				isChoose(t, 2, 2, x, l, end, 0, api.ErrRange)
			}
		}
	}
	isChoose(t, 2, 3, x, []int{2}, false, 0, api.ErrShort)
	isChoose(t, 2, 3, x, []int{2}, true, 0, api.ErrRule)
	isChoose(t, 2, 3, x, []int{2, 0}, false, 0, api.ErrRule)
	isChoose(t, 2, 3, x, nil, false, 0, api.ErrShort)
	isChoose(t, 2, 3, x, []int{0, 2}, false, 0, api.ErrRule)
	isChoose(t, 4, 1, choice{}.trie(4), []int{0, 0, 0}, false, 0, api.ErrShort)
	isChoose(t, 4, 1, choice{}.trie(4), []int{0, 0, 0, 0}, false, 0, api.ErrRule)
	isChoose(t, 4, 1, choice{}.trie(4), nil, true, 0, api.ErrRule)
	isChoose(t, 1, 1, choice{"": 0}.trie(1), nil, true, 0, api.OK)
	isChoose(t, 1, 1, choice{"": 0}.trie(1), []int{0}, true, 0, api.ErrRule)
}

// P18.4: Size and Same take tries of whatever kind.
func TestSizeAndSame(t *testing.T) {
	l := []api.Trie{{}, {Nodes: []api.TrieNode{{}}}, shown(), choice{"": 0}.trie(1), {Nodes: make([]api.TrieNode, 7)}, {Nodes: shown().Nodes[:6]}, {Nodes: []api.TrieNode{{Next: [9]int{-1, math.MaxInt}, Prod: 99}}}}
	for i := range shown().Nodes {
		for place := range 9 {
			x := shown()
			x.Nodes[i].Next[place]++
			l = append(l, x)
		}
		x := shown()
		x.Nodes[i].Prod++
		l = append(l, x)
	}
	for i, a := range l {
		if n := trie.Size(a); n != len(a.Nodes) {
			t.Errorf("Size(%s): %d", show(a), n)
		}
		for j, b := range l {
			b.Nodes = slices.Clone(b.Nodes)
			if is := trie.Same(a, b); is != (i == j) {
				t.Errorf("Same(%s, %s): %v", show(a), show(b), is)
			}
		}
	}
	if !trie.Same(api.Trie{}, api.Trie{Nodes: []api.TrieNode{}}) || !trie.Same(api.Trie{Nodes: []api.TrieNode{}}, api.Trie{}) {
		t.Error("the trie without nodes is not the same")
	}
}

// P18.5: Choose gives the production of the set that has the string, for all strings, and ErrRule if none has.
func TestChooseOfAllStrings(t *testing.T) {
	count := map[api.Errno]int{}
	choices(1850, 60, func(r *rand.Rand, k, terms int, c choice) {
		sets, prods := c.sets()
		x, e := trie.Of(k, terms, sets, prods)
		if e != api.OK {
			t.Fatal(c, e)
		}
		for word := range universe(min(terms, 4), k) {
			y, want, err := plain(word), 0, api.ErrRule
			for i, set := range sets {
				if slices.Contains(set, y) {
					want, err = prods[i], api.OK
				}
			}
			isChoose(t, k, terms, x, numbers(word), true, want, err)
			if len(word) == k {
				isChoose(t, k, terms, x, numbers(word), false, want, err)
			}
			count[err]++
		}
	})
	if count[api.OK] < 500 || count[api.ErrRule] < 500 {
		t.Errorf("the strings are too much alike: %v", count)
	}
}

// P18.6: the strings of a trie are those that it was made of, and it is made of them again.
func TestStringsMakeTheTrie(t *testing.T) {
	choices(186, 200, func(r *rand.Rand, k, terms int, c choice) {
		sets, prods := c.sets()
		x, e := trie.Of(k, terms, sets, prods)
		l, all, f := trie.Strings(k, terms, x)
		if e != api.OK || f != api.OK || len(l) != len(c) || len(all) != len(c) {
			t.Fatal(c, e, f, l, all)
		}
		again := make([][]api.Look, len(sets))
		for i, y := range l {
			if i > 0 && slices.Compare(l[i-1].S[:l[i-1].N], y.S[:y.N]) >= 0 {
				t.Errorf("%v: %v comes behind %v", c, y, l[i-1])
			}
			at := slices.Index(prods, all[i])
			again[at] = append(again[at], y)
		}
		if !slices.EqualFunc(again, sets, slices.Equal[[]api.Look]) {
			t.Errorf("%v: %v, not %v", c, again, sets)
		}
		y, e := trie.Of(k, terms, again, prods)
		if e != api.OK || !trie.Same(x, y) || !isTrie(x, y) {
			t.Errorf("%v: %s is made of it, %v, not %s", c, show(y), e, show(x))
		}
	})
}

// P18.7: what stands behind the first k terminals does not matter, neither does the end there.
func TestWhatStandsBehind(t *testing.T) {
	count := map[api.Errno]int{}
	choices(187, 150, func(r *rand.Rand, k, terms int, c choice) {
		x := c.trie(k)
		for _, word := range slices.Sorted(maps.Keys(c)) {
			l := numbers(word)
			for len(l) < k {
				l = append(l, r.Intn(terms))
			}
			want, err := trie.Choose(k, terms, x, l, false)
			count[err]++
			for range 4 {
				isChoose(t, k, terms, x, l, true, want, err)
				isChoose(t, k, terms, x, l, false, want, err)
				l = append(l, r.Intn(terms))
			}
		}
	})
	if count[api.OK] < 500 || count[api.ErrRule] < 500 || len(count) != 2 {
		t.Errorf("the lists are too much alike: %v", count)
	}
}

// P18.8: each string has at most k + 1 nodes, and there is the root; equal beginnings share their nodes.
func TestNodesAreShared(t *testing.T) {
	choices(188, 200, func(r *rand.Rand, k, terms int, c choice) {
		begins, most := words{}, 1
		for word := range c {
			p := path(k, word)
			most += len(p)
			for n := range p {
				begins[p[:n+1]] = true
			}
		}
		sets, prods := c.sets()
		x, e := trie.Of(k, terms, sets, prods)
		if n := trie.Size(x); e != api.OK || n != 1+len(begins) || n > most || n > 1+(k+1)*len(c) {
			t.Errorf("%v: %s, %v", c, show(x), e)
		}
	})
	isMade(t, 4, 2, choice{"0000": 1, "0001": 1, "000": 2, "00": 3, "0": 4, "": 0})
	if n := len(choice{"0000": 1, "0001": 1, "000": 2, "00": 3, "0": 4, "": 0}.trie(4).Nodes); n != 10 {
		t.Errorf("%d nodes", n)
	}
}

// isWanted demands of For and All what the second way says.
func isWanted(t *testing.T, w wanted) api.Errno {
	t.Helper()
	for n := range w.g.Names {
		x, e := w.trie(n)
		isFor(t, w.g, n, x, e)
	}
	l, e := w.tries()
	isAll(t, w.g, l, e)
	return e
}

// grammars are valid grammars: that of the examples of grammar, those that are sound, with each lookahead, and some at random, of at most three terminals.
func grammars(t *testing.T) []api.Grammar {
	l := []api.Grammar{example(t)}
	for _, text := range sound() {
		for k := 1; k <= 4; k++ {
			l = append(l, lookingAt(k, read(t, text)))
		}
	}
	r := rand.New(rand.NewSource(182))
	for range 250 {
		nonterms := 1 + min(r.Intn(8), r.Intn(8))
		l = append(l, random(r, 1+max(r.Intn(4), r.Intn(4)), 1+max(r.Intn(3), r.Intn(3)), nonterms, min(nonterms+r.Intn(nonterms+1), 23), 2+r.Intn(4)))
	}
	return l
}

// P18.2: For and All, held against sets of words that grow as a whole.
func TestGrammars(t *testing.T) {
	count := map[api.Errno]int{}
	for _, g := range grammars(t) {
		count[isWanted(t, want(g))]++
	}
	if count[api.OK] < 40 || count[api.ErrEmpty] < 30 || count[api.ErrConflict] < 30 || len(count) != 3 {
		t.Errorf("the grammars are too much alike: %v", count)
	}
}

// P18.2: the trie of the examples of grammar, and of others, written out.
func TestTriesOfGrammars(t *testing.T) {
	isAll(t, example(t), []api.Trie{choice{"01": 0, "": 1}.trie(2), choice{"1": 2, "10": 2}.trie(2)}, api.OK)
	isFor(t, example(t), 1, choice{"1": 2, "10": 2}.trie(2), api.OK)
	g := read(t, "lookahead 1; token a, b, c, d, e; separator z; start E; E = T M; M = a T M | ; T = F N; N = b F N | ; F = c E d | e;")
	isAll(t, g, []api.Trie{choice{"2": 0, "4": 0}.trie(1), choice{"0": 1, "": 2, "3": 2}.trie(1), choice{"2": 3, "4": 3}.trie(1), choice{"1": 4, "": 5, "0": 5, "3": 5}.trie(1), choice{"2": 6, "4": 7}.trie(1)}, api.OK)
}

// great returns a grammar with the lookahead 4 in which 16 is any number of 17, which is any of eight terminals: it has too many looks. It has no production that derives nothing, and no conflict.
func great() api.Grammar {
	g := with(4, 8, 2, prod(16, 17, 16), prod(16))
	for term := range 8 {
		g.Prods = append(g.Prods, prod(17, term))
	}
	return g
}

// P18.2, R1, R3: a grammar that is not valid, then the number, then too many looks, then production by production a set without strings, then two sets with a string together.
func TestErrorsOfGrammars(t *testing.T) {
	bad := clone(example(t))
	bad.K = 0
	for _, n := range append([]int{0, 1, 2}, strange...) {
		isFor(t, bad, n, api.Trie{}, api.ErrRange)
		isFor(t, api.Grammar{K: 1}, n, api.Trie{}, api.ErrShort)
		isFor(t, with(1, 1, 1, prod(16, 1)), n, api.Trie{}, api.ErrSymbol)
		isFor(t, with(1, 1, 2, prod(16, 0)), n, api.Trie{}, api.ErrMissing)
		isFor(t, with(1, 1, 1, slices.Repeat([]api.Prod{prod(16)}, 25)...), n, api.Trie{}, api.ErrFull)
	}
	isAll(t, bad, nil, api.ErrRange)
	isAll(t, with(1, 1, 2, prod(16, 0)), nil, api.ErrMissing)
	empty, twice, both := with(2, 1, 2, prod(16, 0), prod(17, 17)), with(1, 1, 2, prod(16, 17), prod(17, 0), prod(17, 0)), with(1, 1, 2, prod(16, 0), prod(16, 0), prod(16, 17), prod(17, 17))
	for _, g := range []api.Grammar{example(t), empty, twice, both, great()} {
		for _, n := range append([]int{2, 8, 16, 17}, strange...) {
			isFor(t, g, n, api.Trie{}, api.ErrRange)
		}
	}
	isFor(t, great(), 0, api.Trie{}, api.ErrStrings)
	isFor(t, great(), 1, api.Trie{}, api.ErrStrings)
	isAll(t, great(), nil, api.ErrStrings)
	isWanted(t, want(great()))
	// Too many looks count also where a nonterminal has none, or has a conflict.
	for _, more := range [][]api.Prod{{prod(18)}, {prod(18, 18)}, {prod(18, 0), prod(18, 0)}} {
		g := great()
		g.Names, g.Prods = append(g.Names, "More"), append(g.Prods, more...)
		for n := range 3 {
			isFor(t, g, n, api.Trie{}, api.ErrStrings)
		}
	}
	isFor(t, empty, 0, choice{"0": 0}.trie(2), api.OK)
	isFor(t, empty, 1, api.Trie{}, api.ErrEmpty)
	isAll(t, empty, nil, api.ErrEmpty)
	isFor(t, twice, 0, choice{"0": 0}.trie(1), api.OK)
	isFor(t, twice, 1, api.Trie{}, api.ErrConflict)
	isAll(t, twice, nil, api.ErrConflict)
	isFor(t, both, 0, api.Trie{}, api.ErrEmpty)
	// Of two nonterminals with errors the first one counts.
	isAll(t, with(1, 1, 2, prod(16, 0), prod(16, 0), prod(17, 17)), nil, api.ErrConflict)
	isAll(t, with(1, 1, 2, prod(16, 16), prod(17, 0), prod(17, 0)), nil, api.ErrEmpty)
}

// P18.9: in a grammar that is strong LL(k) the trie of each nonterminal chooses what predict.Choose does.
func TestTriesChooseWhatPredictChooses(t *testing.T) {
	found, count := 0, map[api.Errno]int{}
	for _, g := range grammars(t) {
		strong, e := predict.Strong(g)
		tries, f := trie.All(g)
		if e != api.OK || strong && f == api.ErrConflict {
			t.Fatalf("%v: %v, %v, %v", g, strong, e, f)
		}
		if !strong || f != api.OK || len(g.Tokens) > 3 {
			continue
		}
		found++
		for n, x := range tries {
			isFor(t, g, n, x, api.OK)
			for word := range universe(len(g.Tokens), g.K) {
				p, e := predict.Choose(g, 16+n, plain(word))
				isChoose(t, g.K, len(g.Tokens), x, numbers(word), true, p, e)
				count[e]++
			}
		}
	}
	if found < 40 || count[api.OK] < 250 || count[api.ErrRule] < 500 || len(count) != 2 {
		t.Errorf("the grammars are too much alike: %d, %v", found, count)
	}
}

// R4: arguments stay as they are, and so does the room behind them.
func TestArgumentsStay(t *testing.T) {
	all, room := sets("00 01", "- 1"), set("2 3 4")
	all[0] = append(room[:0], all[0]...)
	prods := append(make([]int, 0, 9), 3, 5)
	isOf(t, 2, 2, all, prods, shown(), api.OK)
	isOf(t, 2, 2, all[:1], prods[:1], choice{"00": 3, "01": 3}.trie(2), api.OK)
	if !slices.Equal(all[0], set("00 01")) || !slices.Equal(all[1], set("- 1")) || room[2] != plain("4") || !slices.Equal(prods[:3], []int{3, 5, 0}) {
		t.Errorf("%v, %v, %v", all, room, prods[:3])
	}
	x := api.Trie{Nodes: append(shown().Nodes, api.TrieNode{Prod: 77})[:7]}
	l := []int{0, 1, 1, 0}
	isChoose(t, 2, 2, x, l[:1], true, 0, api.ErrRule)
	isChoose(t, 2, 2, x, l[:2], true, 3, api.OK)
	isCheck(t, 2, 2, 24, x, api.OK)
	isStrings(t, 2, 2, x, set("- 00 01 1"), []int{5, 3, 3, 5}, api.OK)
	if !isTrie(x, shown()) || x.Nodes[:8][7] != (api.TrieNode{Prod: 77}) || !slices.Equal(l, []int{0, 1, 1, 0}) {
		t.Errorf("%s, %v", show(x), l)
	}
	g := clone(example(t))
	isAll(t, g, []api.Trie{choice{"01": 0, "": 1}.trie(2), choice{"1": 2, "10": 2}.trie(2)}, api.OK)
	isFor(t, g, 0, choice{"01": 0, "": 1}.trie(2), api.OK)
	if !grammar.Same(g, example(t)) {
		t.Errorf("%v", g)
	}
}

// spoil overwrites the nodes of x and the room behind them.
func spoil(x api.Trie) {
	l := x.Nodes[:cap(x.Nodes)]
	for i := range l {
		l[i] = api.TrieNode{Prod: 99}
	}
}

// R4: results share no memory with arguments or other results.
func TestNothingIsShared(t *testing.T) {
	all, prods := sets("00 01", "- 1"), []int{3, 5}
	x, _ := trie.Of(2, 2, all, prods)
	y, _ := trie.Of(2, 2, all, prods)
	all[0][0], prods[0] = plain("1"), 9
	if !isTrie(x, shown()) {
		t.Errorf("%s keeps its arguments", show(x))
	}
	spoil(x)
	if !isTrie(y, shown()) {
		t.Errorf("%s shares its memory", show(y))
	}
	l, p, _ := trie.Strings(2, 2, y)
	k, q, _ := trie.Strings(2, 2, y)
	spoil(y)
	clear(l[:cap(l)])
	clear(p[:cap(p)])
	if !slices.Equal(k, set("- 00 01 1")) || !slices.Equal(q, []int{5, 3, 3, 5}) {
		t.Errorf("%v, %v", k, q)
	}
	// The tries of three nonterminals are equal but for the productions.
	g := with(1, 2, 3, prod(16, 17, 18), prod(17, 0), prod(18, 0))
	want := []api.Trie{choice{"0": 0}.trie(1), choice{"0": 1}.trie(1), choice{"0": 2}.trie(1)}
	for i := range want {
		tries, _ := trie.All(g)
		again, _ := trie.All(g)
		alone, _ := trie.For(g, i)
		spoil(tries[i])
		spoil(alone)
		for j := range want {
			if j != i && !isTrie(tries[j], want[j]) || !isTrie(again[j], want[j]) {
				t.Errorf("%d shares its memory with %d", i, j)
			}
		}
		isAll(t, g, want, api.OK)
	}
}

// R4: a nil list and an empty one are equal.
func TestNilAndEmpty(t *testing.T) {
	root := choice{}.trie(1)
	for _, none := range [][][]api.Look{nil, {}} {
		for _, prods := range [][]int{nil, {}} {
			isOf(t, 1, 1, none, prods, root, api.OK)
		}
	}
	for _, none := range [][]api.Look{nil, {}} {
		isOf(t, 1, 1, [][]api.Look{none}, []int{0}, api.Trie{}, api.ErrEmpty)
	}
	for _, none := range [][]int{nil, {}} {
		isChoose(t, 2, 2, shown(), none, true, 5, api.OK)
		isChoose(t, 2, 2, shown(), none, false, 0, api.ErrShort)
	}
	isStrings(t, 1, 1, root, nil, nil, api.OK)
	for _, none := range [][]api.TrieNode{nil, {}} {
		isRefused(t, 1, 1, api.Trie{Nodes: none}, api.ErrForm)
	}
}

// whole has all strings of at most k terminals, each string another production than the one before it.
func whole(k, terms int) choice {
	c := choice{}
	for i, word := range slices.Sorted(maps.Keys(universe(terms, k))) {
		c[word] = i * 7 % 24
	}
	return c
}

// P1: the greatest tries.
func TestGreatTries(t *testing.T) {
	for k := 1; k <= 4; k++ {
		c := whole(k, 8)
		isMade(t, k, 8, c)
		x := c.trie(k)
		for _, word := range []string{"", "0", "77", "017", "7777", "0123"} {
			isChosen(t, k, 8, x, c, numbers(word), true)
		}
		all, prods := c.sets()
		last := all[len(all)-1]
		all[len(all)-1] = append(last[:len(last):len(last)], all[0][len(all[0])-1])
		slices.SortFunc(all[len(all)-1], func(a, b api.Look) int { return slices.Compare(a.S[:a.N], b.S[:b.N]) })
		if len(all) == 24 {
			isOf(t, k, 8, all, prods, api.Trie{}, api.ErrConflict)
		}
	}
	isChoose(t, 4, 8, shown(), make([]int, 1<<20), true, 0, api.ErrForm)
	isChoose(t, 2, 2, shown(), append(make([]int, 1<<20), 2), true, 0, api.ErrRange)
	isChoose(t, 2, 2, shown(), make([]int, 1<<20), false, 3, api.OK)
}

// P1: nodes that lead to themselves and to each other, in all ways.
func TestNodesThatGoRound(t *testing.T) {
	for _, n := range []int{1, 2, 3, 9, 1000, 1 << 16} {
		x := api.Trie{Nodes: make([]api.TrieNode, n)}
		for i := range x.Nodes {
			for place := range x.Nodes[i].Next {
				x.Nodes[i].Next[place] = (i*9 + place + 1) % n
			}
		}
		for k := 1; k <= 4; k++ {
			isCheck(t, k, 8, 24, x, api.ErrForm)
		}
	}
	// All strings lead through few nodes.
	x := api.Trie{Nodes: []api.TrieNode{{Next: [9]int{1, 1, 1, 1, 1, 1, 1, 1, 2}, Prod: -1}, {Next: [9]int{1, 1, 1, 1, 1, 1, 1, 1, 2}, Prod: -1}, {Prod: 0}}}
	for k := 1; k <= 4; k++ {
		isRefused(t, k, 8, x, api.ErrForm)
	}
}

// R6: the same arguments lead to the same results each time.
func TestAgain(t *testing.T) {
	c := whole(2, 5)
	for range 20 {
		isMade(t, 2, 5, c)
		isWanted(t, want(example(t)))
	}
}

// P1, R5: no argument is too great or too strange.
func TestAllArgumentsAreTaken(t *testing.T) {
	count := map[api.Errno]int{}
	choices(1, 2000, func(r *rand.Rand, k, terms int, c choice) {
		pick := func() int { return strange[r.Intn(len(strange))] }
		all, prods := c.sets()
		x := c.trie(k)
		l := []int{r.Intn(terms), r.Intn(terms)}
		i := r.Intn(len(all))
		j := r.Intn(len(all[i]))
		want, err := x, api.OK
		switch r.Intn(9) {
		case 0:
			k, want, err = pick(), api.Trie{}, api.ErrRange
			isRefused(t, k, terms, x, err)
		case 1:
			terms, want, err = pick(), api.Trie{}, api.ErrRange
			isRefused(t, k, terms, x, err)
		case 2:
			all, want, err = append(all, nil), api.Trie{}, api.ErrRange
		case 3:
			prods[i], want, err = pick(), api.Trie{}, api.ErrOrder
		case 4:
			all[i], want, err = nil, api.Trie{}, api.ErrEmpty
		case 5:
			all[i][j].N, want, err = pick(), api.Trie{}, api.ErrForm
		case 6:
			all[i][j] = api.Look{N: 4, S: [4]int{0, 0, 0, pick()}}
			want, err = api.Trie{}, api.ErrSymbol
		case 7:
			l[r.Intn(2)] = pick()
		}
		count[err]++
		isOf(t, k, terms, all, prods, want, err)
		if err == api.OK {
			count[isChosen(t, k, terms, x, c, l, r.Intn(2) == 0)]++
		}
	})
	if len(count) < 8 || count[api.OK] < 400 || count[api.ErrForm] < 150 || count[api.ErrSymbol] < 150 || count[api.ErrRange] < 300 || count[api.ErrRule] < 60 {
		t.Errorf("the arguments are too much alike: %v", count)
	}
}
