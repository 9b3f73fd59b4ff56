package predict_test

import (
	"fmt"
	"maps"
	"math"
	"math/rand"
	"slices"
	"strconv"
	"strings"
	"testing"

	"stenotype/api"
	"stenotype/first"
	"stenotype/follow"
	"stenotype/grammar"
	"stenotype/look"
	"stenotype/lookset"
	"stenotype/predict"
	"stenotype/source"
)

// strange are numbers that no grammar has as symbols or productions, and no look has as its length or its terminals.
var strange = []int{math.MinInt, math.MinInt + 1, math.MinInt + 16, -17, -16, -1, 24, 25, 40, 256, 1 << 16, 1 << 32, 1<<32 + 16, math.MaxInt - 16, math.MaxInt}

// words are strings of terminals, each terminal written as a digit.
type words map[string]bool

// plain returns the look that is written as digits, or as - if it has no terminals, without the program.
func plain(word string) api.Look {
	var x api.Look
	for _, digit := range strings.Trim(word, "-") {
		x.S[x.N] = int(digit - '0')
		x.N++
	}
	return x
}

// set returns the looks of words that are written side by side, with blanks between them.
func set(text string) []api.Look {
	var l []api.Look
	for _, word := range strings.Fields(text) {
		l = append(l, plain(word))
	}
	return l
}

// looks returns the looks of w, in order, which is that of strings of digits.
func looks(w words) []api.Look {
	var l []api.Look
	for _, word := range slices.Sorted(maps.Keys(w)) {
		l = append(l, plain(word))
	}
	return l
}

// cut returns the first n terminals of each word of w.
func cut(w words, n int) words {
	shorter := words{}
	for word := range w {
		shorter[word[:min(n, len(word))]] = true
	}
	return shorter
}

// joined returns the first k terminals of x and then y, for all x of a, none of them longer than k, and y of b.
func joined(k int, a, b words) words {
	all, cuts := words{}, map[int]words{}
	for x := range a {
		if cuts[len(x)] == nil {
			cuts[len(x)] = cut(b, k-len(x))
		}
		for y := range cuts[len(x)] {
			all[x+y] = true
		}
	}
	return all
}

// meet returns the words that both have.
func meet(a, b words) words {
	both := words{}
	for x := range a {
		if b[x] {
			both[x] = true
		}
	}
	return both
}

// universe returns all words of at most k terminals.
func universe(terms, k int) words {
	all := words{"": true}
	for range k {
		longer := words{"": true}
		for symbol := range terms {
			for word := range all {
				longer[strconv.Itoa(symbol)+word] = true
			}
		}
		all = longer
	}
	return all
}

// show writes a list of looks, and no more of it than one wants to read.
func show(l []api.Look) string { return fmt.Sprintf("%d looks %v", len(l), l[:min(len(l), 20)]) }

// prod returns a production.
func prod(left int, right ...int) api.Prod { return api.Prod{Left: left, Right: right} }

// with returns a grammar with so many terminals and nonterminals, with the start 16.
func with(k, terms, nonterms int, prods ...api.Prod) api.Grammar {
	g := api.Grammar{K: k, Sep: "z", Start: 16, Prods: prods}
	for i := range terms {
		g.Tokens = append(g.Tokens, "t"+strconv.Itoa(i))
	}
	for i := range nonterms {
		g.Names = append(g.Names, "N"+strconv.Itoa(i))
	}
	return g
}

// read returns the grammar of a text.
func read(t *testing.T, text string) api.Grammar {
	t.Helper()
	x, f := source.Parse(text)
	g, e := grammar.Of(x)
	if f != (api.Fault{}) || e != api.OK {
		t.Fatal(text, f, e)
	}
	return g
}

// example returns the grammar of the examples.
func example(t *testing.T) api.Grammar {
	t.Helper()
	return read(t, "lookahead 2; token a, b; separator nl; start S; S = a T | ; T = b S;")
}

// clone returns a grammar that is equal to g, in memory of its own.
func clone(g api.Grammar) api.Grammar {
	h := g
	h.Tokens, h.Names, h.Prods = slices.Clone(g.Tokens), slices.Clone(g.Names), slices.Clone(g.Prods)
	for i := range h.Prods {
		h.Prods[i].Right = slices.Clone(g.Prods[i].Right)
	}
	return h
}

// lookingAt returns g with another lookahead.
func lookingAt(k int, g api.Grammar) api.Grammar {
	h := clone(g)
	h.K = k
	return h
}

// anyRight returns at most most symbols of g; the greater dull is, from 0 to 4, the more of them are terminals.
func anyRight(r *rand.Rand, g api.Grammar, dull, most int) []int {
	var l []int
	for range min(r.Intn(6), 1) * r.Intn(most+1) {
		symbol := 16 + r.Intn(len(g.Names))
		if r.Intn(4) < dull {
			symbol = r.Intn(len(g.Tokens))
		}
		l = append(l, symbol)
	}
	return l
}

// random returns a valid grammar at random with that many terminals, nonterminals and productions, and at most right symbols on a right side.
func random(r *rand.Rand, k, terms, nonterms, prods, right int) api.Grammar {
	g := with(k, terms, nonterms)
	g.Start += r.Intn(nonterms)
	var lefts []int
	for i := range prods {
		left := 16 + r.Intn(nonterms)
		if i < nonterms {
			left = 16 + i
		}
		lefts = append(lefts, left)
	}
	slices.Sort(lefts)
	// With few terminals, few nonterminals derive anything; with many of them, few looks are longer than others.
	dull := 1 + r.Intn(3)
	for _, left := range lefts {
		g.Prods = append(g.Prods, prod(left, anyRight(r, g, dull, right)...))
	}
	return g
}

// sound are texts of grammars that are strong LL(k), but not with a lesser lookahead.
func sound() []string {
	return []string{
		"lookahead 1; token a, b; separator z; start S; S = a S b | ;",
		"lookahead 1; token a, b, c, d, e; separator z; start E; E = T M; M = a T M | ; T = F N; N = b F N | ; F = c E d | e;",
		"lookahead 2; token a, b; separator z; start S; S = a | a b;",
		"lookahead 2; token a, b, c; separator z; start S; S = A S | ; A = a B | a c; B = b | ;",
		"lookahead 3; token a, b; separator z; start S; S = a a S | a a | b;",
		"lookahead 3; token a, b, c; separator z; start S; S = A B a b; A = a b | ; B = c B | ;",
		"lookahead 4; token a, b, c; separator z; start S; S = A A; A = b b b B | b b b a; B = c A | ;",
		"lookahead 4; token a, b; separator z; start S; S = a a a S | a a a b;",
		"lookahead 4; token a, b, c, d, e, f, g, h; separator z; start S; S = X X a a h | ; X = a a g | a a a b | a a a c | d Y; Y = d S b | e f;",
	}
}

// grammars are valid grammars: that of the examples, those that are sound, with each lookahead, and some at random, of at most three terminals.
func grammars(t *testing.T) []api.Grammar {
	l := []api.Grammar{example(t)}
	for _, text := range sound() {
		for k := 1; k <= 4; k++ {
			l = append(l, lookingAt(k, read(t, text)))
		}
	}
	r := rand.New(rand.NewSource(17))
	for range 200 {
		nonterms := 1 + min(r.Intn(8), r.Intn(8))
		l = append(l, random(r, 1+max(r.Intn(4), r.Intn(4)), 1+max(r.Intn(3), r.Intn(3)), nonterms, min(nonterms+r.Intn(2*nonterms+1), 23), 2+r.Intn(5)))
	}
	return l
}

// wanted are FIRST_k and FOLLOW_k of all symbols of a grammar, and PRED of its productions, for the second way.
type wanted struct {
	g               api.Grammar
	firsts, follows map[int]words
	preds           []words
}

// want returns FIRST_k and FOLLOW_k of all symbols of g, where whole sets are joined, again and again, until no set grows, and PRED of all productions.
func want(g api.Grammar) wanted {
	w := wanted{g, map[int]words{}, map[int]words{}, nil}
	for symbol := range 24 {
		w.firsts[symbol], w.follows[symbol] = words{}, words{}
	}
	for symbol := range g.Tokens {
		w.firsts[symbol][strconv.Itoa(symbol)] = true
	}
	untilNothingGrows(w.firsts, func() {
		for _, p := range g.Prods {
			maps.Copy(w.firsts[p.Left], w.first(p.Right))
		}
	})
	w.follows[g.Start][""] = true
	untilNothingGrows(w.follows, func() {
		for _, p := range g.Prods {
			for dot, symbol := range p.Right {
				maps.Copy(w.follows[symbol], joined(g.K, w.first(p.Right[dot+1:]), w.follows[p.Left]))
			}
		}
	})
	for _, p := range g.Prods {
		w.preds = append(w.preds, joined(g.K, w.first(p.Right), w.follows[p.Left]))
	}
	return w
}

// untilNothingGrows calls round again and again until no set of m has more words behind a call than before it.
func untilNothingGrows(m map[int]words, round func()) {
	size := func() int {
		n := 0
		for _, w := range m {
			n += len(w)
		}
		return n
	}
	for before := -1; size() > before; {
		before = size()
		round()
	}
}

// first returns FIRST_k of a list of symbols.
func (w wanted) first(symbols []int) words {
	all := words{"": true}
	for _, symbol := range symbols {
		all = joined(w.g.K, all, w.firsts[symbol])
	}
	return all
}

// size is what Size is to return.
func (w wanted) size() (int, api.Errno) {
	for _, sets := range []map[int]words{w.firsts, w.follows} {
		for i := range w.g.Names {
			if len(sets[16+i]) > 600 {
				return 16 + i, api.ErrStrings
			}
		}
	}
	for p, pred := range w.preds {
		if len(pred) > 600 {
			return w.g.Prods[p].Left, api.ErrStrings
		}
	}
	return 0, api.OK
}

// conflict is what Conflict is to return if no set has too many looks: the productions of a nonterminal stand side by side.
func (w wanted) conflict() (api.Conflict, bool) {
	for p := range w.preds {
		for q := p + 1; q < len(w.preds); q++ {
			both := looks(meet(w.preds[p], w.preds[q]))
			if w.g.Prods[p].Left == w.g.Prods[q].Left && len(both) > 0 {
				return api.Conflict{Nonterm: w.g.Prods[p].Left, P: p, Q: q, Look: both[0]}, true
			}
		}
	}
	return api.Conflict{}, false
}

// choose is what Choose is to return for a word if no set has too many looks.
func (w wanted) choose(symbol int, word string) (int, api.Errno) {
	if len(word) > w.g.K {
		return 0, api.ErrRange
	}
	var l []int
	for p, pred := range w.preds {
		if w.g.Prods[p].Left == symbol && pred[word] {
			l = append(l, p)
		}
	}
	if len(l) == 0 {
		return 0, api.ErrRule
	}
	if len(l) > 1 {
		return 0, api.ErrConflict
	}
	return l[0], api.OK
}

// lines is what Lines is to return if no set has too many looks.
func (w wanted) lines() []string {
	names := slices.Concat(w.g.Tokens, make([]string, 16-len(w.g.Tokens)), w.g.Names)
	var lines []string
	for p, pred := range w.preds {
		line := names[w.g.Prods[p].Left] + " ="
		for _, symbol := range w.g.Prods[p].Right {
			line += " " + names[symbol]
		}
		line += ":"
		for _, word := range slices.Sorted(maps.Keys(pred)) {
			if word == "" {
				word = "-"
			}
			line += " [" + strings.Join(strings.Split(word, ""), " ") + "]"
		}
		lines = append(lines, line)
	}
	return lines
}

// isPred demands that Pred says this.
func isPred(t *testing.T, g api.Grammar, p int, want []api.Look, err api.Errno) {
	t.Helper()
	if l, e := predict.Pred(g, p); !slices.Equal(l, want) || e != err {
		t.Errorf("Pred(%v, %d): %s, %v, not %s, %v", g, p, show(l), e, show(want), err)
	}
}

// isAll demands that All says this.
func isAll(t *testing.T, g api.Grammar, want [][]api.Look, err api.Errno) {
	t.Helper()
	if l, e := predict.All(g); !slices.EqualFunc(l, want, slices.Equal[[]api.Look]) || e != err {
		t.Errorf("All(%v): %d sets, %v, not %d, %v", g, len(l), e, len(want), err)
	}
}

// isSize demands that Size says this.
func isSize(t *testing.T, g api.Grammar, nonterm int, err api.Errno) {
	t.Helper()
	if n, e := predict.Size(g); n != nonterm || e != err {
		t.Errorf("Size(%v): %d, %v, not %d, %v", g, n, e, nonterm, err)
	}
}

// isConflict demands that Conflict, and Strong, say this.
func isConflict(t *testing.T, g api.Grammar, want api.Conflict, is bool, err api.Errno) {
	t.Helper()
	if c, b, e := predict.Conflict(g); c != want || b != is || e != err {
		t.Errorf("Conflict(%v): %v, %v, %v, not %v, %v, %v", g, c, b, e, want, is, err)
	}
	strong := !is && err == api.OK
	if b, e := predict.Strong(g); b != strong || e != err {
		t.Errorf("Strong(%v): %v, %v, not %v, %v", g, b, e, strong, err)
	}
}

// isChoose demands that Choose says this.
func isChoose(t *testing.T, g api.Grammar, symbol int, x api.Look, want int, err api.Errno) {
	t.Helper()
	if p, e := predict.Choose(g, symbol, x); p != want || e != err {
		t.Errorf("Choose(%v, %v, %v): %v, %v, not %v, %v", g, symbol, x, p, e, want, err)
	}
}

// isLines demands that Lines says this.
func isLines(t *testing.T, g api.Grammar, want []string, err api.Errno) {
	t.Helper()
	if l, e := predict.Lines(g); !slices.Equal(l, want) || e != err {
		t.Errorf("Lines(%v): %.1000q, %v, not %.1000q, %v", g, l[:min(len(l), 9)], e, want[:min(len(want), 9)], err)
	}
}

// isRefused demands of all functions that they return err, and nonterm with that of Size.
func isRefused(t *testing.T, g api.Grammar, p, symbol int, x api.Look, nonterm int, err api.Errno) {
	t.Helper()
	isPred(t, g, p, nil, err)
	isAll(t, g, nil, err)
	isSize(t, g, nonterm, err)
	isConflict(t, g, api.Conflict{}, false, err)
	isChoose(t, g, symbol, x, 0, err)
	isLines(t, g, nil, err)
}

// isWanted demands of all functions but Choose what the second way says.
func isWanted(t *testing.T, w wanted) {
	t.Helper()
	if nonterm, e := w.size(); e != api.OK {
		isRefused(t, w.g, len(w.g.Prods)-1, 16, api.Look{}, nonterm, e)
		return
	}
	isSize(t, w.g, 0, api.OK)
	var all [][]api.Look
	for p, pred := range w.preds {
		isPred(t, w.g, p, looks(pred), api.OK)
		all = append(all, looks(pred))
	}
	isAll(t, w.g, all, api.OK)
	c, is := w.conflict()
	isConflict(t, w.g, c, is, api.OK)
	isLines(t, w.g, w.lines(), api.OK)
}

// isWantedChoice demands of Choose what the second way says of a word.
func isWantedChoice(t *testing.T, w wanted, symbol int, word string) api.Errno {
	t.Helper()
	p, e := w.choose(symbol, word)
	isChoose(t, w.g, symbol, plain(word), p, e)
	return e
}

// all returns what All says, which must be sets that are right for g.
func all(t *testing.T, g api.Grammar) [][]api.Look {
	t.Helper()
	preds, e := predict.All(g)
	if e != api.OK || len(preds) != len(g.Prods) {
		t.Fatalf("All(%v): %d, %v", g, len(preds), e)
	}
	for _, l := range preds {
		if e := lookset.Check(len(g.Tokens), l); e != api.OK {
			t.Fatalf("All(%v): %s, %v", g, show(l), e)
		}
	}
	return preds
}

// strong reports whether g is strong LL(k).
func strong(t *testing.T, g api.Grammar) bool {
	t.Helper()
	is, e := predict.Strong(g)
	if e != api.OK {
		t.Fatalf("Strong(%v): %v", g, e)
	}
	return is
}

// one returns a grammar of one nonterminal with these right sides.
func one(k int, rights ...[]int) api.Grammar {
	g := with(k, 2, 1)
	for _, right := range rights {
		g.Prods = append(g.Prods, prod(16, right...))
	}
	return g
}

// The rows of the examples.
func TestExamples(t *testing.T) {
	g := example(t)
	isPred(t, g, 0, set("01"), api.OK)
	isPred(t, g, 1, set("-"), api.OK)
	isPred(t, g, 2, set("1 10"), api.OK)
	isPred(t, g, 3, nil, api.ErrRange)
	isChoose(t, g, 16, plain("01"), 0, api.OK)
	isChoose(t, g, 16, plain("-"), 1, api.OK)
	isChoose(t, g, 16, plain("0"), 0, api.ErrRule)
	isChoose(t, g, 17, plain("10"), 2, api.OK)
	isChoose(t, g, 0, plain("1"), 0, api.ErrSymbol)
	isChoose(t, g, 16, plain("010"), 0, api.ErrRange)
	isConflict(t, g, api.Conflict{}, false, api.OK)
	isConflict(t, one(1, []int{0}, []int{0, 1}), api.Conflict{Nonterm: 16, P: 0, Q: 1, Look: plain("0")}, true, api.OK)
	isConflict(t, one(2, []int{0}, []int{0, 1}), api.Conflict{}, false, api.OK)
	isConflict(t, one(2, []int{16, 0}, nil), api.Conflict{Nonterm: 16, P: 0, Q: 1, Look: plain("0")}, true, api.OK)
	isLines(t, g, []string{"S = a T: [0 1]", "S =: [-]", "T = b S: [1] [1 0]"}, api.OK)
	isAll(t, g, [][]api.Look{set("01"), set("-"), set("1 10")}, api.OK)
	isSize(t, g, 0, api.OK)
}

// P17.1, P17.2, P17.3, P17.5: all functions but Choose, held against sets of words that grow as a whole.
func TestSecondWay(t *testing.T) {
	sizes, conflicts, places := map[int]int{}, map[bool]int{}, map[api.Conflict]bool{}
	for _, g := range grammars(t) {
		if e := grammar.Check(g); e != api.OK {
			t.Fatalf("%v: %v", g, e)
		}
		w := want(g)
		isWanted(t, w)
		for _, pred := range w.preds {
			sizes[min(len(pred), 20)]++
		}
		c, is := w.conflict()
		conflicts[is]++
		places[c] = true
	}
	if len(sizes) < 18 || sizes[0] < 50 || sizes[1] < 50 || sizes[20] < 20 {
		t.Errorf("the sets are too much alike: %v", sizes)
	}
	if conflicts[true] < 50 || conflicts[false] < 50 || len(places) < 30 {
		t.Errorf("the conflicts are too much alike: %v, %v", conflicts, places)
	}
}

// P17.4: Choose, for all looks that are right for the grammar, also those with more than k terminals.
func TestChooseOfAllLooks(t *testing.T) {
	r := rand.New(rand.NewSource(174))
	count := map[api.Errno]int{}
	choose := func(g api.Grammar) {
		w := want(g)
		for symbol := 16; symbol < 16+len(g.Names); symbol++ {
			for word := range universe(len(g.Tokens), 4) {
				count[isWantedChoice(t, w, symbol, word)]++
			}
		}
	}
	choose(example(t))
	for range 150 {
		nonterms := 1 + r.Intn(3)
		choose(random(r, 1+r.Intn(4), 1+r.Intn(2), nonterms, nonterms+r.Intn(6), 4))
	}
	if count[api.OK] < 200 || count[api.ErrRule] < 200 || count[api.ErrConflict] < 200 || count[api.ErrRange] < 200 || len(count) != 4 {
		t.Errorf("the looks are too much alike: %v", count)
	}
}

// forms returns a form and all those that are derived from it by forms of at most width symbols, the last nonterminal being replaced each time. A symbol is written as the rune that is so many behind 0.
func forms(g api.Grammar, form string, width int) []string {
	seen, all := map[string]bool{form: true}, []string{form}
	for i := 0; i < len(all); i++ {
		at := strings.LastIndexFunc(all[i], isNonterm)
		for _, p := range g.Prods {
			if at < 0 || p.Left != int(all[i][at]-'0') {
				continue
			}
			next := all[i][:at] + written(p.Right) + all[i][at+1:]
			if len(next) <= width && !seen[next] {
				seen[next] = true
				all = append(all, next)
			}
		}
	}
	return all
}

// written returns symbols as the runes of forms.
func written(symbols []int) string {
	var s strings.Builder
	for _, symbol := range symbols {
		s.WriteByte('0' + byte(symbol))
	}
	return s.String()
}

// isNonterm reports whether a rune of a form is a nonterminal.
func isNonterm(r rune) bool { return r >= '0'+16 }

// byForms returns PRED of each production by the definition: from all forms of at most width symbols that the start derives, and from the strings that are derived from the right side and what stands there behind the last nonterminal, which are terminals.
func byForms(g api.Grammar, width int) []words {
	preds, derived := make([]words, len(g.Prods)), map[string]words{}
	for p := range preds {
		preds[p] = words{}
	}
	for _, form := range forms(g, written([]int{g.Start}), width) {
		at := strings.LastIndexFunc(form, isNonterm)
		for p := range g.Prods {
			if at < 0 || g.Prods[p].Left != int(form[at]-'0') {
				continue
			}
			rest := written(g.Prods[p].Right) + form[at+1:]
			if derived[rest] == nil {
				derived[rest] = stringsOf(g, rest, max(width, len(rest)))
			}
			maps.Copy(preds[p], derived[rest])
		}
	}
	return preds
}

// stringsOf returns the first k terminals of the strings that a form derives by forms of at most width symbols.
func stringsOf(g api.Grammar, form string, width int) words {
	all := words{}
	for _, s := range forms(g, form, width) {
		if !strings.ContainsFunc(s, isNonterm) {
			all[s[:min(g.K, len(s))]] = true
		}
	}
	return all
}

// rights returns all right sides of at most most symbols of l.
func rights(l []int, most int) [][]int {
	all, last := [][]int{nil}, [][]int{nil}
	for range most {
		var longer [][]int
		for _, right := range last {
			for _, symbol := range l {
				longer = append(longer, append(slices.Clone(right), symbol))
			}
		}
		all, last = append(all, longer...), longer
	}
	return all
}

// isByForms demands of all functions what the forms of a grammar say.
func isByForms(t *testing.T, g api.Grammar, width int) {
	t.Helper()
	isWanted(t, wanted{g, nil, nil, byForms(g, width)})
}

// P17.2, P17.3: all grammars of one nonterminal with two short productions, held against the sentential forms themselves.
func TestFormsOfOneNonterminal(t *testing.T) {
	all := rights([]int{0, 1, 16}, 2)
	for k := 1; k <= 2; k++ {
		for i, a := range all {
			for _, b := range all[i:] {
				isByForms(t, one(k, a, b), 6)
			}
		}
	}
}

// P17.2, P17.3: all grammars of two nonterminals with short productions, of which the second one has one alone, held against the sentential forms themselves.
func TestFormsOfTwoNonterminals(t *testing.T) {
	all := rights([]int{0, 16, 17}, 2)
	for i, a := range all {
		for _, b := range all[i:] {
			for _, c := range all {
				isByForms(t, with(2, 1, 2, prod(16, a...), prod(16, b...), prod(17, c...)), 8)
			}
		}
	}
}

// The term PRED: x +k y, with x of FIRST_k of the right side, and y of FOLLOW_k of the left one.
func TestSumsOfFirstAndFollow(t *testing.T) {
	for _, g := range grammars(t) {
		for p, x := range g.Prods {
			a, e := first.Of(g, x.Right)
			b, f := follow.Of(g, x.Left)
			l, h := lookset.Sum(len(g.Tokens), g.K, a, b)
			if e != api.OK || f != api.OK || h != api.OK {
				t.Fatalf("%v: %v, %v, %v", g, e, f, h)
			}
			isPred(t, g, p, l, api.OK)
		}
	}
}

// P17.3: the first nonterminal, the first pair by P and then by Q, and the least look.
func TestConflicts(t *testing.T) {
	for _, c := range []struct {
		g    api.Grammar
		want api.Conflict
	}{
		// The pair 0 and 3 comes before 1 and 2, and 0 and 1 before both.
		{one(1, []int{0}, []int{1}, []int{1}, []int{0}), api.Conflict{Nonterm: 16, P: 0, Q: 3, Look: plain("0")}},
		{one(2, []int{0}, []int{1, 0}, []int{1, 0}, []int{0}, nil, nil), api.Conflict{Nonterm: 16, P: 0, Q: 3, Look: plain("0")}},
		{one(1, []int{1}, []int{1}, []int{0}, []int{0}), api.Conflict{Nonterm: 16, P: 0, Q: 1, Look: plain("1")}},
		{one(1, nil, []int{1}, []int{0}, []int{1}, []int{0}), api.Conflict{Nonterm: 16, P: 1, Q: 3, Look: plain("1")}},
		{one(1, nil, []int{1}, []int{0}, []int{0}, []int{1}), api.Conflict{Nonterm: 16, P: 1, Q: 4, Look: plain("1")}},
		{one(4, nil, []int{0}, []int{1}, []int{1, 1}, []int{1, 0}, []int{1, 0}), api.Conflict{Nonterm: 16, P: 4, Q: 5, Look: plain("10")}},
		// A look that three productions have, and one that a later pair has alone.
		{one(2, []int{1}, []int{1}, []int{1}), api.Conflict{Nonterm: 16, P: 0, Q: 1, Look: plain("1")}},
		{with(1, 2, 2, prod(16, 17), prod(16, 0), prod(16, 17), prod(17, 0), prod(17, 1)), api.Conflict{Nonterm: 16, P: 0, Q: 1, Look: plain("0")}},
		{with(1, 2, 2, prod(16, 17), prod(16, 1), prod(16, 17), prod(17, 0), prod(17, 1)), api.Conflict{Nonterm: 16, P: 0, Q: 1, Look: plain("1")}},
		// Of several looks the least one: the one without terminals, a beginning, the least terminal.
		{with(2, 2, 3, prod(16, 17), prod(16, 18), prod(17, 1), prod(17, 0, 0), prod(17), prod(18, 0, 1), prod(18, 0, 0), prod(18)), api.Conflict{Nonterm: 16, P: 0, Q: 1, Look: plain("-")}},
		{with(2, 2, 3, prod(16, 17), prod(16, 18), prod(17, 1, 1), prod(17, 1), prod(17, 0, 0), prod(18, 1, 1), prod(18, 1), prod(18, 0, 1)), api.Conflict{Nonterm: 16, P: 0, Q: 1, Look: plain("1")}},
		{with(3, 2, 3, prod(16, 17), prod(16, 18), prod(17, 1), prod(17, 0, 1, 1), prod(17, 0, 1, 0), prod(18, 1), prod(18, 0, 1, 1), prod(18, 0, 1, 0)), api.Conflict{Nonterm: 16, P: 0, Q: 1, Look: plain("010")}},
		// The first nonterminal by its number, wherever the start is; and productions of different nonterminals have no conflict.
		{api.Grammar{K: 1, Tokens: []string{"a", "b"}, Sep: "z", Names: []string{"A", "B", "C"}, Start: 18, Prods: []api.Prod{prod(16, 0), prod(17, 1), prod(17, 1), prod(18, 16), prod(18, 16, 17)}}, api.Conflict{Nonterm: 17, P: 1, Q: 2, Look: plain("1")}},
		{with(1, 2, 8, prod(16, 17, 23), prod(17, 18), prod(18, 19), prod(19, 20), prod(20, 21), prod(21, 22), prod(22, 0), prod(23), prod(23)), api.Conflict{Nonterm: 23, P: 7, Q: 8}},
		// What follows decides, too.
		{with(1, 2, 2, prod(16, 17, 0), prod(17, 0), prod(17)), api.Conflict{Nonterm: 17, P: 1, Q: 2, Look: plain("0")}},
		{with(2, 2, 2, prod(16, 17, 0, 1), prod(16, 17, 1, 0), prod(17, 0), prod(17, 0, 1)), api.Conflict{Nonterm: 16, P: 0, Q: 1, Look: plain("01")}},
	} {
		isConflict(t, c.g, c.want, true, api.OK)
	}
	for _, g := range []api.Grammar{
		with(1, 1, 3, prod(16, 0, 17), prod(16, 18), prod(17, 0), prod(17), prod(18, 18), prod(18, 18, 0)),
		with(1, 1, 2, prod(16, 0), prod(17, 0), prod(17, 0)),
		with(2, 2, 3, prod(16, 17, 0, 18), prod(17, 0), prod(17), prod(18, 1), prod(18)),
		one(2, []int{0}, []int{0, 1}, []int{0, 0}, []int{1}, nil),
	} {
		isConflict(t, g, api.Conflict{}, false, api.OK)
	}
}

// change returns the grammar of the examples with a change.
func change(t *testing.T, f func(g *api.Grammar)) api.Grammar {
	t.Helper()
	g := clone(example(t))
	f(&g)
	return g
}

// P17.1, R1, R3: all functions tell the error of grammar.Check first, and alone.
func TestGrammarsThatAreNotValid(t *testing.T) {
	for _, c := range []struct {
		g   api.Grammar
		err api.Errno
	}{
		{api.Grammar{}, api.ErrRange},
		{change(t, func(g *api.Grammar) { g.K = 0 }), api.ErrRange},
		{change(t, func(g *api.Grammar) { g.K = 5 }), api.ErrRange},
		{change(t, func(g *api.Grammar) { g.Prods = slices.Repeat(g.Prods, 9) }), api.ErrFull},
		{change(t, func(g *api.Grammar) { g.Tokens = nil }), api.ErrShort},
		{change(t, func(g *api.Grammar) { g.Sep = "Z" }), api.ErrName},
		{change(t, func(g *api.Grammar) { g.Names[1] = "S" }), api.ErrExists},
		{change(t, func(g *api.Grammar) { g.Prods[2].Right[0] = 2 }), api.ErrSymbol},
		{change(t, func(g *api.Grammar) { slices.Reverse(g.Prods) }), api.ErrOrder},
		{change(t, func(g *api.Grammar) { g.Prods = g.Prods[:2] }), api.ErrMissing},
	} {
		for _, n := range []int{0, 1, 3, 16, 17, 99, -1} {
			isRefused(t, c.g, n, n, api.Look{}, 0, c.err)
			isRefused(t, c.g, n, n, api.Look{N: 9}, 0, c.err)
			isRefused(t, c.g, n, n, plain("000"), 0, c.err)
		}
	}
}

// P17.2: the numbers of productions, from 0 on, whatever the sets are.
func TestNumbersThatAreNoProductions(t *testing.T) {
	for _, g := range []api.Grammar{example(t), star(8)} {
		for _, p := range append([]int{-2, len(g.Prods), len(g.Prods) + 1, 15, 16, 17, 23}, strange...) {
			isPred(t, g, p, nil, api.ErrRange)
		}
	}
	for n := 1; n <= 24; n++ {
		g := one(1, slices.Repeat([][]int{{0}}, n)...)
		isPred(t, g, n-1, set("0"), api.OK)
		isPred(t, g, n, nil, api.ErrRange)
	}
}

// P17.4, R1, R3: the symbol is asked before the look, both before the sizes of the sets, and how long the look is behind these.
func TestSymbolsAndLooksThatAreNotRight(t *testing.T) {
	long := star(7)
	for _, g := range []api.Grammar{example(t), long} {
		for _, symbol := range append([]int{0, 1, 2, 3, 7, 8, 15, 18, 19, 23}, strange...) {
			isChoose(t, g, symbol, plain("1"), 0, api.ErrSymbol)
			isChoose(t, g, symbol, api.Look{N: 9}, 0, api.ErrSymbol)
			isChoose(t, g, symbol, plain("1010"), 0, api.ErrSymbol)
		}
		for symbol := 16; symbol <= 17; symbol++ {
			for _, n := range append([]int{5, 6, -2}, strange...) {
				isChoose(t, g, symbol, api.Look{N: n}, 0, api.ErrForm)
				isChoose(t, g, symbol, api.Look{S: [4]int{0, 0, 0, n}}, 0, api.ErrForm)
				isChoose(t, g, symbol, api.Look{N: 2, S: [4]int{8, n, 1}}, 0, api.ErrForm)
			}
			for _, term := range append([]int{7, 16, 17}, strange...) {
				isChoose(t, g, symbol, api.Look{N: 1, S: [4]int{term}}, 0, api.ErrSymbol)
				isChoose(t, g, symbol, api.Look{N: 4, S: [4]int{0, 1, 0, term}}, 0, api.ErrSymbol)
			}
		}
	}
	for symbol := 16; symbol <= 17; symbol++ {
		isChoose(t, example(t), symbol, plain("2"), 0, api.ErrSymbol)
		isChoose(t, example(t), symbol, plain("0002"), 0, api.ErrSymbol)
		isChoose(t, long, symbol, plain("0006"), 0, api.ErrStrings)
		isChoose(t, long, symbol, plain("-"), 0, api.ErrStrings)
		for k := 1; k <= 3; k++ {
			isChoose(t, lookingAt(k, long), symbol, plain("0006"), 0, api.ErrRange)
			isChoose(t, lookingAt(k, long), symbol, plain("0060"[:k+1]), 0, api.ErrRange)
		}
	}
	for k := 1; k <= 3; k++ {
		isChoose(t, lookingAt(k, long), 16, plain("0060"[:k]), 0, api.OK)
		isChoose(t, lookingAt(k, long), 16, plain("-"), 1, api.OK)
		isChoose(t, lookingAt(k, long), 17, plain("6"), 8, api.OK)
	}
}

// star returns a grammar with the lookahead 4 in which the first nonterminal is any number of the second one, which is any terminal.
func star(terms int) api.Grammar {
	g := with(4, terms, 2, prod(16, 17, 16), prod(16))
	g.Prods = append(g.Prods, anyTerminal(17, terms)...)
	return g
}

// anyTerminal returns a production for each terminal.
func anyTerminal(left, terms int) []api.Prod {
	var l []api.Prod
	for term := range terms {
		l = append(l, prod(left, term))
	}
	return l
}

// isLimit demands that all functions take g, in which a set has 600 looks, and refuse it with a production more, by which it has 601, because of nonterm.
func isLimit(t *testing.T, g api.Grammar, nonterm int, more api.Prod) {
	t.Helper()
	isWanted(t, want(g))
	isSize(t, g, 0, api.OK)
	h := clone(g)
	h.Prods = append(h.Prods, more)
	isWanted(t, want(h))
	isRefused(t, h, 0, 16, api.Look{}, nonterm, api.ErrStrings)
	isRefused(t, h, len(g.Prods), nonterm, plain("0000"), nonterm, api.ErrStrings)
	isPred(t, h, len(h.Prods), nil, api.ErrRange)
}

// wide returns productions of left whose right sides begin with some symbols, behind which there are 600 looks for eight terminals and the lookahead 4, if 16 is any terminal: all 585 of at most three terminals, and 15 of four.
func wide(left int, begin ...int) []api.Prod {
	var l []api.Prod
	for _, right := range [][]int{{16, 16, 16}, {16, 16}, {16}, {}, {0, 0, 0, 16}, {7, 7, 7, 7}, {0, 0, 1, 0}, {0, 0, 1, 1}, {0, 0, 2, 0}, {0, 1, 0, 0}, {1, 0, 0, 0}, {7, 7, 7, 6}} {
		l = append(l, prod(left, slices.Concat(begin, right)...))
	}
	return l
}

// P17.1: 600 looks of FIRST_k are not too many, 601 are.
func TestTooManyFirsts(t *testing.T) {
	g := with(4, 8, 2, append(anyTerminal(16, 8), wide(17)...)...)
	g.Start = 17
	if n := len(want(g).firsts[17]); n != 600 {
		t.Fatalf("%d looks", n)
	}
	isLimit(t, g, 17, prod(17, 7, 7, 6, 7))
}

// P17.1: 600 looks of FOLLOW_k are not too many, 601 are.
func TestTooManyFollows(t *testing.T) {
	g := with(4, 8, 3, append(anyTerminal(16, 8), prod(17, 0, 1, 0, 1))...)
	g.Start, g.Prods = 18, append(g.Prods, wide(18, 17)...)
	if n := len(want(g).follows[17]); n != 600 {
		t.Fatalf("%d looks", n)
	}
	isLimit(t, g, 17, prod(18, 17, 7, 7, 6, 7))
}

// P17.1: 600 looks of PRED are not too many, 601 are: 64 of two terminals, each with nine continuations of at most two, and 24 of four.
func TestTooManyPreds(t *testing.T) {
	g := with(4, 8, 4, anyTerminal(16, 8)...)
	g.Start = 17
	g.Prods = append(g.Prods, prod(17, 0, 0, 0, 18, 7, 16), prod(17, 0, 0, 0, 18), prod(18, 19), prod(19, 16, 16), prod(19, 0, 0, 0, 16), prod(19, 0, 0, 1, 16), prod(19, 0, 0, 2, 16))
	if n := len(want(g).preds[10]); n != 600 {
		t.Fatalf("%d looks", n)
	}
	isLimit(t, g, 18, prod(19, 0, 0, 3, 0))
	// The left side counts, and of several ones the first one.
	g.Prods = slices.Insert(g.Prods, 10, prod(18, 0, 0))
	isLimit(t, g, 18, prod(19, 0, 0, 3, 0))
}

// crowd returns a grammar with the lookahead 4 in which 16 is any of so many terminals, and the nonterminals behind it, the last of which is the start, have these right sides.
func crowd(terms int, rights ...[][]int) api.Grammar {
	g := with(4, terms, 1+len(rights), anyTerminal(16, terms)...)
	for i, l := range rights {
		g.Start = 17 + i
		for _, right := range l {
			g.Prods = append(g.Prods, prod(g.Start, right...))
		}
	}
	return g
}

// isTooMuch demands that all functions refuse g because of nonterm.
func isTooMuch(t *testing.T, g api.Grammar, nonterm int) {
	t.Helper()
	if e := grammar.Check(g); e != api.OK {
		t.Fatalf("%v: %v", g, e)
	}
	isRefused(t, g, 0, 16, api.Look{}, nonterm, api.ErrStrings)
	isWanted(t, want(g))
}

// from17 returns the right sides of three nonterminals, or those of one that has a place for each: few for 17 up to below nonterm, and many from there on.
func from17(nonterm int, few, many func(symbol int) []int) [][]int {
	var l [][]int
	for symbol := 17; symbol <= 19; symbol++ {
		if symbol < nonterm {
			l = append(l, few(symbol))
		} else {
			l = append(l, many(symbol))
		}
	}
	return l
}

// P17.1: FIRST_k of all nonterminals are asked before FOLLOW_k, and these before PRED; each of them in order.
func TestWhichNonterminalHasTooManyLooks(t *testing.T) {
	// 20 is any string of five terminals, which makes 781 looks, and 156 behind a terminal.
	for nonterm := 17; nonterm <= 20; nonterm++ {
		l := from17(nonterm, func(int) []int { return []int{0, 20} }, func(int) []int { return []int{20} })
		isTooMuch(t, crowd(5, l[:1], l[1:2], l[2:], [][]int{{16, 20}, {}}), nonterm)
	}
	// Some of 17, 18 and 19 stand before 20, which is at most three of eight terminals, and what may be one terminal more.
	short := [][]int{{16, 16, 16}, {16, 16}, {16}, {}}
	for nonterm := 17; nonterm <= 19; nonterm++ {
		l := from17(nonterm, func(symbol int) []int { return []int{symbol} }, func(symbol int) []int { return []int{symbol, 20} })
		isTooMuch(t, crowd(8, [][]int{{0, 0, 0, 0}}, [][]int{{1, 1, 1, 1}}, [][]int{{2, 2, 2, 2}}, short, l, [][]int{{21}, {21, 0}}), nonterm)
	}
	// 17, 18 and 19 are two terminals, and so is what stands behind some of them.
	for nonterm := 17; nonterm <= 19; nonterm++ {
		l := from17(nonterm, func(symbol int) []int { return []int{0, 0, 0, symbol} }, func(symbol int) []int { return []int{0, 0, 0, symbol, 16, 16} })
		two := [][]int{{16, 16}}
		g := crowd(8, two, two, two, [][]int{{1, 1, 1, 1}}, short, l)
		isTooMuch(t, g, nonterm)
		// What stands behind 20 counts before that, and with what 23 begins counts before both.
		g.Prods = append(g.Prods, prod(22, 20, 21), prod(22, 20, 21, 0))
		isTooMuch(t, g, 20)
		g.Names, g.Prods = append(g.Names, "Last"), append(g.Prods, prod(23, 16, 16, 16, 16))
		isTooMuch(t, g, 23)
	}
}

// anyCrowd returns a grammar at random with the lookahead 4, in which 16 is any of at least five terminals, and stands in many places, often behind some terminals.
func anyCrowd(r *rand.Rand) api.Grammar {
	terms, nonterms := 5+r.Intn(4), 2+r.Intn(3)
	g := with(4, terms, 1+nonterms, anyTerminal(16, terms)...)
	g.Start = 17 + r.Intn(nonterms)
	for i := range nonterms {
		begin := r.Intn(4)
		for range 1 + r.Intn(3) {
			right := anyRight(r, g, 4, begin)
			for range r.Intn(7 - len(right)) {
				right = append(right, max(16, 13+r.Intn(4+nonterms)))
			}
			g.Prods = append(g.Prods, prod(17+i, right...))
		}
	}
	return g
}

// P17.1 to P17.5: all functions, where there are many looks, held against the second way.
func TestSecondWayWithManyLooks(t *testing.T) {
	r := rand.New(rand.NewSource(171))
	count := map[string]int{}
	for range 50 {
		w := want(anyCrowd(r))
		isWanted(t, w)
		nonterm, e := w.size()
		switch {
		case e == api.OK:
			count["none"]++
			for range 10 {
				word := written([]int{r.Intn(5), r.Intn(5), r.Intn(5), r.Intn(5)})[r.Intn(5):]
				count[isWantedChoice(t, w, 16+r.Intn(len(w.g.Names)), word).Error()]++
			}
		case len(w.firsts[nonterm]) > 600:
			count["first"]++
		default:
			count["follow"]++
		}
	}
	if count["none"] < 10 || count["first"] < 10 || count["follow"] < 10 || count["ok"] < 10 || count["rule"] < 10 {
		t.Errorf("the grammars are too much alike: %v", count)
	}
}

// great returns a grammar with as much of everything as there may be: each nonterminal derives all strings, in as many ways as possible.
func great(k int) api.Grammar {
	g := with(k, 8, 8)
	for i := range 8 {
		var others []int
		for by := 1; by <= 6; by++ {
			others = append(others, 16+(i+by)%8)
		}
		g.Prods = append(g.Prods, prod(16+i), prod(16+i, others...), prod(16+i, slices.Replace(slices.Clone(others), 0, 1, i)...))
	}
	return g
}

// P1: the greatest grammar.
func TestGreatGrammar(t *testing.T) {
	isRefused(t, great(4), 23, 23, plain("7777"), 16, api.ErrStrings)
	for k := 1; k <= 3; k++ {
		var sets [][]api.Look
		for i := range 8 {
			begun := joined(k, words{strconv.Itoa(i): true}, universe(8, k))
			sets = append(sets, looks(universe(8, k)), looks(universe(8, k)), looks(begun))
		}
		g := great(k)
		isAll(t, g, sets, api.OK)
		isConflict(t, g, api.Conflict{Nonterm: 16, P: 0, Q: 1}, true, api.OK)
		isChoose(t, g, 23, plain("777"[:k]), 0, api.ErrConflict)
	}
}

// step is a production that is used in a derivation, and how many terminals of the sentence stand before it.
type step struct{ prod, at int }

// sentence makes a sentence at random, from left to right, and the steps of its leftmost derivation. Behind so many steps it takes the productions with the fewest steps.
func sentence(r *rand.Rand, g api.Grammar, least map[int]int) (string, []step) {
	var s strings.Builder
	var steps []step
	var derive func(symbol int)
	derive = func(symbol int) {
		if symbol < 16 {
			s.WriteByte('0' + byte(symbol))
			return
		}
		var l []int
		for p := range g.Prods {
			if g.Prods[p].Left == symbol && cost(g.Prods[p].Right, least) < math.MaxInt32 {
				l = append(l, p)
			}
		}
		p := l[r.Intn(len(l))]
		if len(steps) > 20 {
			p = slices.MinFunc(l, func(a, b int) int { return cost(g.Prods[a].Right, least) - cost(g.Prods[b].Right, least) })
		}
		steps = append(steps, step{p, s.Len()})
		for _, x := range g.Prods[p].Right {
			derive(x)
		}
	}
	derive(g.Start)
	return s.String(), steps
}

// cost returns how many steps a list of symbols needs at least, or more than there may be.
func cost(symbols []int, least map[int]int) int {
	n := 1
	for _, symbol := range symbols {
		if symbol >= 16 {
			n = min(n+least[symbol], math.MaxInt32)
		}
	}
	return n
}

// leastSteps returns how many steps each nonterminal needs at least to derive a string.
func leastSteps(g api.Grammar) map[int]int {
	least := map[int]int{}
	for i := range g.Names {
		least[16+i] = math.MaxInt32
	}
	for range g.Names {
		for _, p := range g.Prods {
			least[p.Left] = min(least[p.Left], cost(p.Right, least))
		}
	}
	return least
}

// isReduced reports whether all nonterminals of g derive strings, and forms of the start have them.
func isReduced(g api.Grammar) bool {
	least, reached := leastSteps(g), map[int]bool{g.Start: true}
	for range g.Names {
		for _, p := range g.Prods {
			for _, symbol := range p.Right {
				reached[symbol] = reached[symbol] || reached[p.Left]
			}
		}
	}
	for i := range g.Names {
		if least[16+i] == math.MaxInt32 || !reached[16+i] {
			return false
		}
	}
	return true
}

// replay derives a sentence as P17.6 says, and returns the steps that Choose leads to, up to the first one that goes wrong.
func replay(g api.Grammar, s string) []step {
	var steps []step
	at, stack := 0, []int{g.Start}
	for len(stack) > 0 {
		symbol := stack[0]
		stack = stack[1:]
		if symbol < 16 {
			if at == len(s) || int(s[at]-'0') != symbol {
				return steps
			}
			at++
			continue
		}
		p, e := predict.Choose(g, symbol, plain(s[at:min(len(s), at+g.K)]))
		if e != api.OK {
			return steps
		}
		steps = append(steps, step{p, at})
		stack = slices.Concat(g.Prods[p].Right, stack)
	}
	return steps
}

// isLong reports whether one of some sentences of g needs many steps.
func isLong(r *rand.Rand, g api.Grammar) bool {
	for range 5 {
		if _, steps := sentence(r, g, leastSteps(g)); len(steps) > 7 {
			return true
		}
	}
	return false
}

// strongOnes are grammars that are strong LL(k), with a start that derives a string.
func strongOnes(t *testing.T) []api.Grammar {
	t.Helper()
	var l []api.Grammar
	for _, text := range sound() {
		l = append(l, read(t, text))
	}
	r := rand.New(rand.NewSource(176))
	for len(l) < 60 {
		nonterms := 1 + r.Intn(4)
		g := random(r, 1+r.Intn(4), 1+r.Intn(4), nonterms, nonterms+1+r.Intn(nonterms+1), 5)
		if isReduced(g) && strong(t, g) && isLong(r, g) {
			l = append(l, g)
		}
	}
	return l
}

// P17.6: choosing the production in whose PRED the next k terminals are leads to the derivation of a sentence.
func TestSentencesAreDerivedByChoosing(t *testing.T) {
	r := rand.New(rand.NewSource(1760))
	count := map[int]int{}
	for _, g := range strongOnes(t) {
		if !strong(t, g) {
			t.Fatalf("%v is not strong", g)
		}
		least := leastSteps(g)
		for range 12 {
			s, steps := sentence(r, g, least)
			if again := replay(g, s); !slices.Equal(again, steps) {
				t.Fatalf("%v: %s by %v, not %v", g, s, again, steps)
			}
			count[min(len(steps), 8)]++
		}
	}
	if count[8] < 100 {
		t.Errorf("the sentences are too short: %v", count)
	}
}

// P17.7: the look of a conflict is in PRED of both productions, no lesser pair or look is, and no lesser lookahead takes it away.
func TestWhatAConflictIs(t *testing.T) {
	count := map[bool]int{}
	for _, g := range grammars(t) {
		c, is, e := predict.Conflict(g)
		if e != api.OK {
			t.Fatalf("%v: %v", g, e)
		}
		count[is]++
		preds := all(t, g)
		for p := range g.Prods {
			for q := p + 1; q < len(g.Prods); q++ {
				both, e := lookset.Meet(len(g.Tokens), preds[p], preds[q])
				isBefore := !is || p < c.P || p == c.P && q < c.Q
				if e != api.OK || isBefore && g.Prods[p].Left == g.Prods[q].Left && len(both) > 0 {
					t.Errorf("%v: %v, but %d and %d have %s, %v", g, c, p, q, show(both), e)
				}
				if is && p == c.P && q == c.Q && (len(both) == 0 || both[0] != c.Look || g.Prods[p].Left != c.Nonterm || g.Prods[q].Left != c.Nonterm) {
					t.Errorf("%v: %v, but %d and %d have %s", g, c, p, q, show(both))
				}
			}
		}
		for k := 1; k < g.K; k++ {
			if is && strong(t, lookingAt(k, g)) {
				t.Errorf("%v is strong with %d", g, k)
			}
		}
	}
	if count[true] < 50 || count[false] < 50 {
		t.Errorf("the grammars are too much alike: %v", count)
	}
	for _, text := range sound() {
		g := read(t, text)
		for k := 1; k <= 4; k++ {
			if strong(t, lookingAt(k, g)) != (k >= g.K) {
				t.Errorf("%s, with %d", text, k)
			}
		}
	}
}

// P17.8: in a reduced grammar no PRED is empty, and its looks, of which those with fewer than k terminals end sentences, are what stands in sentences from the place on where the production is used; hardly one is not found in such.
func TestLooksOfSentences(t *testing.T) {
	r := rand.New(rand.NewSource(178))
	count := map[string]int{}
	for _, g := range grammars(t) {
		if !isReduced(g) {
			continue
		}
		least, preds, found := leastSteps(g), all(t, g), map[int]words{}
		for p := range g.Prods {
			found[p] = words{}
		}
		for range 4000 {
			s, steps := sentence(r, g, least)
			for _, x := range steps {
				found[x.prod][s[x.at:min(len(s), x.at+g.K)]] = true
			}
		}
		for p, pred := range preds {
			if len(pred) == 0 {
				t.Errorf("%v: PRED of %d is empty", g, p)
			}
			for _, x := range looks(found[p]) {
				if !slices.Contains(pred, x) {
					t.Errorf("%v: %v stands where %d is used", g, x, p)
				}
			}
			for _, x := range pred {
				isFound := slices.Contains(looks(found[p]), x)
				count[fmt.Sprint(x.N < g.K, isFound)]++
			}
		}
	}
	if count["true true"] < 200 || count["false true"] < 500 || count["true false"] > 100 || count["false false"] > 100 {
		t.Errorf("found and not: %v", count)
	}
}

// P17.9: turning the order of the alternatives of a nonterminal changes the numbers of productions alone.
func TestOrderOfAlternatives(t *testing.T) {
	r := rand.New(rand.NewSource(179))
	moved := 0
	for _, g := range grammars(t) {
		h, at := clone(g), []int{}
		left := g.Prods[r.Intn(len(g.Prods))].Left
		for p := range g.Prods {
			if g.Prods[p].Left == left {
				at = append(at, p)
			}
		}
		number := map[int]int{}
		for p := range g.Prods {
			number[p] = p
		}
		for i, j := range r.Perm(len(at)) {
			number[at[i]] = at[j]
			h.Prods[at[j]] = g.Prods[at[i]]
		}
		before, after := all(t, g), all(t, h)
		for p, q := range number {
			if !slices.Equal(before[p], after[q]) {
				t.Errorf("%v: %d is %d in %v, but %s is not %s", g, p, q, h, show(before[p]), show(after[q]))
			}
			if p != q {
				moved++
			}
			for i, x := range before[p] {
				if i > 2 {
					break
				}
				a, e := predict.Choose(g, g.Prods[p].Left, x)
				b, f := predict.Choose(h, g.Prods[p].Left, x)
				if e != f || e == api.OK && number[a] != b {
					t.Errorf("%v: %v leads to %d, %v, and to %d, %v in %v", g, x, a, e, b, f, h)
				}
			}
		}
		if strong(t, g) != strong(t, h) {
			t.Errorf("%v: %v is another answer", g, h)
		}
	}
	if moved < 200 {
		t.Errorf("hardly any production is moved: %d", moved)
	}
}

// R4: arguments stay as they are, and so does the room behind them.
func TestArgumentsStay(t *testing.T) {
	g := clone(example(t))
	room := []int{0, 17, 99, 99}
	g.Prods[0].Right = room[:2]
	g.Prods = append(g.Prods, prod(99, 99))[:3]
	before := clone(g)
	isAll(t, g, [][]api.Look{set("01"), set("-"), set("1 10")}, api.OK)
	isPred(t, g, 0, set("01"), api.OK)
	isSize(t, g, 0, api.OK)
	isConflict(t, g, api.Conflict{}, false, api.OK)
	isChoose(t, g, 17, plain("1"), 2, api.OK)
	isLines(t, g, []string{"S = a T: [0 1]", "S =: [-]", "T = b S: [1] [1 0]"}, api.OK)
	long := star(5)
	isRefused(t, long, 0, 16, api.Look{}, 16, api.ErrStrings)
	if !grammar.Same(g, before) || room[2] != 99 || g.Prods[:4][3].Left != 99 || !grammar.Same(long, star(5)) {
		t.Errorf("%v, %v, %v", g, room, long)
	}
}

// R4: results share no memory with other results, nor with sets of the same result, also if these are equal.
func TestNothingIsShared(t *testing.T) {
	g := with(2, 2, 2, prod(16, 17, 16), prod(16), prod(16), prod(17), prod(17), prod(17, 17), prod(17, 0, 1))
	w := want(g)
	for i := range g.Prods {
		all, _ := predict.All(g)
		again, _ := predict.All(g)
		alone, _ := predict.Pred(g, i)
		for _, l := range [][]api.Look{again[i], alone, all[i]} {
			// Also the room behind the looks.
			l = l[:cap(l)]
			for j := range l {
				l[j] = plain("1111")
			}
		}
		for p := range g.Prods {
			if p != i && (!slices.Equal(all[p], looks(w.preds[p])) || !slices.Equal(again[p], looks(w.preds[p]))) {
				t.Errorf("%d shares its memory with %d", p, i)
			}
		}
		isPred(t, g, i, looks(w.preds[i]), api.OK)
	}
	lines, _ := predict.Lines(g)
	lines[0] = "none"
	isWanted(t, w)
}

// R4: a nil list and an empty one are equal.
func TestNilAndEmpty(t *testing.T) {
	for _, none := range [][]int{nil, {}} {
		g := change(t, func(g *api.Grammar) { g.Prods[1].Right = none })
		isAll(t, g, [][]api.Look{set("01"), set("-"), set("1 10")}, api.OK)
		isLines(t, g, []string{"S = a T: [0 1]", "S =: [-]", "T = b S: [1] [1 0]"}, api.OK)
	}
}

// P17.5: names of any length, more than one digit, and productions without looks.
func TestLinesOfOtherNames(t *testing.T) {
	g := read(t, "lookahead 3; token plus, c9, x; separator z; start Sum_1; Sum_1 = x plus Sum_1 | x | ; Other = c9 c9;")
	isLines(t, g, []string{"Sum_1 = x plus Sum_1: [2 0] [2 0 2]", "Sum_1 = x: [2]", "Sum_1 =: [-]", "Other = c9 c9:"}, api.OK)
	isLines(t, lookingAt(1, g), []string{"Sum_1 = x plus Sum_1: [2]", "Sum_1 = x: [2]", "Sum_1 =: [-]", "Other = c9 c9:"}, api.OK)
}

// R6: the same arguments lead to the same results each time.
func TestAgain(t *testing.T) {
	for _, g := range []api.Grammar{great(1), one(2, []int{0, 1}, []int{1, 16}, []int{1, 0}, []int{0, 16}, []int{1, 0}, []int{0, 1})} {
		w := want(g)
		for range 20 {
			isWanted(t, w)
		}
	}
}

// P1, R5: no argument is too great or too strange.
func TestAllArgumentsAreTaken(t *testing.T) {
	r := rand.New(rand.NewSource(1))
	pick := func() int { return strange[r.Intn(len(strange))] }
	count := map[api.Errno]int{}
	for range 1500 {
		nonterms := 1 + r.Intn(3)
		g := random(r, 1+r.Intn(4), 1+r.Intn(3), nonterms, nonterms+r.Intn(6), 4)
		symbol, at := 16+r.Intn(len(g.Names)), r.Intn(len(g.Prods))
		x := api.Look{N: r.Intn(3)}
		p := &g.Prods[at]
		switch r.Intn(8) {
		case 0:
			g.K = pick()
		case 1:
			g.Start = pick()
		case 2:
			p.Left = pick()
		case 3:
			p.Right = append(p.Right, pick())
		case 4:
			symbol = pick()
		case 5:
			x.S[r.Intn(4)] = pick()
		case 6:
			x.N = pick()
		case 7:
			at = pick()
		}
		err := grammar.Check(g)
		count[err]++
		if err != api.OK {
			isRefused(t, g, at, symbol, x, 0, err)
			continue
		}
		w := want(g)
		isWanted(t, w)
		if symbol < 16 || symbol >= 16+len(g.Names) {
			isChoose(t, g, symbol, x, 0, api.ErrSymbol)
			count[api.ErrSymbol]++
		} else if e := look.Check(x, len(g.Tokens)); e != api.OK {
			isChoose(t, g, symbol, x, 0, e)
			count[e]++
		} else {
			count[isWantedChoice(t, w, symbol, "000"[:x.N])]++
		}
		if at < 0 || at >= len(g.Prods) {
			isPred(t, g, at, nil, api.ErrRange)
			count[api.ErrRange]++
		}
	}
	if len(count) < 6 || count[api.OK] < 500 || count[api.ErrSymbol] < 200 || count[api.ErrForm] < 50 || count[api.ErrRange] < 200 || count[api.ErrRule] < 50 || count[api.ErrConflict] < 20 {
		t.Errorf("the arguments are too much alike: %v", count)
	}
}
