package derive_test

import (
	"cmp"
	"math"
	"math/rand"
	"slices"
	"strconv"
	"strings"
	"testing"

	"stenotype/api"
	"stenotype/derive"
	"stenotype/grammar"
)

// Forms are written as letters: a to h are the terminals 0 to 7, S to Z the nonterminals 16 to 23.

// strange are numbers that no grammar has as symbols or productions.
var strange = []int{math.MinInt, math.MinInt + 1, math.MinInt + 16, -257, -17, -16, -1, 24, 25, 40, 256, 1 << 16, 1 << 32, 1<<32 + 16, math.MaxInt - 16, math.MaxInt}

// words are strings of terminals.
type words map[string]bool

// symbol returns the symbol that is written as this letter.
func symbol(letter byte) int {
	if letter >= 'S' && letter <= 'Z' {
		return 16 + int(letter-'S')
	}
	return int(letter - 'a')
}

// letter returns the letter of a symbol.
func letter(symbol int) byte {
	if symbol >= 16 {
		return 'S' + byte(symbol-16)
	}
	return 'a' + byte(symbol)
}

// form returns the symbols of a text.
func form(text string) []int {
	var l []int
	for i := range len(text) {
		l = append(l, symbol(text[i]))
	}
	return l
}

// text returns the text of a form.
func text(form []int) string {
	var s strings.Builder
	for _, x := range form {
		s.WriteByte(letter(x))
	}
	return s.String()
}

// prod returns the production left = right.
func prod(left byte, right string) api.Prod { return api.Prod{Left: symbol(left), Right: form(right)} }

// with returns a grammar with so many terminals and nonterminals, with the start S.
func with(terms, nonterms int, prods ...api.Prod) api.Grammar {
	g := api.Grammar{K: 1, Sep: "z", Start: 16, Prods: prods}
	for i := range terms {
		g.Tokens = append(g.Tokens, string(letter(i)))
	}
	for i := range nonterms {
		g.Names = append(g.Names, string(letter(16+i)))
	}
	return g
}

// rules returns a grammar with so many terminals and these rules, as S=aSb|T T=b, one for each nonterminal, in order.
func rules(terms int, text string) api.Grammar {
	g := with(terms, len(strings.Fields(text)))
	for _, rule := range strings.Fields(text) {
		for _, right := range strings.Split(rule[2:], "|") {
			g.Prods = append(g.Prods, prod(rule[0], right))
		}
	}
	return g
}

// example returns the grammar of the examples.
func example() api.Grammar { return rules(2, "S=aSb|T T=b|TT") }

// show writes a grammar as its rules.
func show(g api.Grammar) string {
	s := []string{strconv.Itoa(len(g.Tokens)), "start", strconv.Itoa(g.Start)}
	for _, p := range g.Prods {
		s = append(s, string(letter(p.Left))+"="+text(p.Right))
	}
	return strings.Join(s, " ")
}

// clone returns a grammar that is equal to g, in memory of its own.
func clone(g api.Grammar) api.Grammar {
	h := g
	h.Tokens, h.Names, h.Prods = slices.Clone(g.Tokens), slices.Clone(g.Names), slices.Clone(g.Prods)
	for i := range h.Prods {
		h.Prods[i].Right = slices.Clone(g.Prods[i].Right)
	}
	return h
}

// anySymbol returns a symbol of g; the greater dull is, from 0 to 4, the more often a terminal.
func anySymbol(r *rand.Rand, g api.Grammar, dull int) int {
	if r.Intn(4) < dull {
		return r.Intn(len(g.Tokens))
	}
	return 16 + r.Intn(len(g.Names))
}

// anyForm returns a form of g of at most most symbols.
func anyForm(r *rand.Rand, g api.Grammar, dull, most int) []int {
	var l []int
	for range r.Intn(most + 1) {
		l = append(l, anySymbol(r, g, dull))
	}
	return l
}

// anyWord returns a string of at most most terminals of g.
func anyWord(r *rand.Rand, g api.Grammar, most int) []int { return anyForm(r, g, 4, most) }

// random returns a valid grammar at random with that many terminals and nonterminals, at most prods productions, and at most right symbols on a right side.
func random(r *rand.Rand, terms, nonterms, prods, right int) api.Grammar {
	g := with(terms, nonterms)
	g.K, g.Start = 1+r.Intn(4), 16+r.Intn(nonterms)
	var lefts []int
	for i := range nonterms {
		lefts = append(lefts, 16+i)
	}
	for range r.Intn(prods - nonterms + 1) {
		lefts = append(lefts, 16+r.Intn(nonterms))
	}
	slices.Sort(lefts)
	dull := 1 + r.Intn(3)
	for _, left := range lefts {
		g.Prods = append(g.Prods, api.Prod{Left: left, Right: anyForm(r, g, dull, right)})
	}
	return g
}

// grammars are valid grammars: that of the examples, some with a point, and many at random, of at most so many terminals.
func grammars(seed int64, many, terms int) []api.Grammar {
	l := []api.Grammar{
		example(),
		rules(1, "S=S"), rules(1, "S="), rules(1, "S=|S"), rules(1, "S=S|a"), rules(1, "S=SS|a|"), rules(1, "S=Sa"), rules(1, "S=aSa|"),
		rules(2, "S=T T=U U=S|a|Sb"), rules(2, "S=TT T=UU|a U=VV| V=b|T"), rules(2, "S=TU T=|aT U=|bU"),
		rules(2, "S=bb|ba|ab|T T=Ta|bbb|b"), rules(2, "S=ST|b T=|TS"), rules(1, "S=T T=U U=V V=W W=X X=Y Y=Z Z=a|Sa"),
	}
	r := rand.New(rand.NewSource(seed))
	for range many {
		nonterms := 1 + min(r.Intn(8), r.Intn(8))
		l = append(l, random(r, 1+r.Intn(terms), nonterms, min(24, 6*nonterms), 1+min(r.Intn(6), r.Intn(6))))
	}
	return l
}

// compare is the order of strings: the shorter ones come first.
func compare(a, b string) int { return cmp.Or(cmp.Compare(len(a), len(b)), cmp.Compare(a, b)) }

// inOrder returns w in order.
func inOrder(w words) []string {
	var l []string
	for word := range w {
		l = append(l, word)
	}
	slices.SortFunc(l, compare)
	return l
}

// universe returns all strings of at most most of so many terminals, in order.
func universe(terms, most int) []string {
	l := []string{""}
	for last := l; len(last[0]) < most; {
		var longer []string
		for _, s := range last {
			for i := range terms {
				longer = append(longer, s+string(letter(i)))
			}
		}
		l, last = append(l, longer...), longer
	}
	return l
}

// lang has, for each letter, the strings that the symbol derives, in order: those with at most most terminals, and if there is a text, only those that are parts of it.
type lang struct {
	most  int
	text  string
	words map[byte][]string
}

// langOf returns the strings of g: whole sets are joined, again and again, until none grows.
func langOf(g api.Grammar, most int, text string) lang {
	l := lang{most, text, map[byte][]string{}}
	for i := range g.Tokens {
		l.words[letter(i)] = inOrder(l.joined(words{string(letter(i)): true}, []string{""}))
	}
	for grew := true; grew; {
		grew = false
		for _, p := range g.Prods {
			all := l.of(p.Right)
			left := letter(p.Left)
			for _, x := range l.words[left] {
				all[x] = true
			}
			grew = grew || len(all) > len(l.words[left])
			l.words[left] = inOrder(all)
		}
	}
	return l
}

// joined returns the strings that count of those with one of a and then one of b, which is in order.
func (l lang) joined(a words, b []string) words {
	all := words{}
	for x := range a {
		for _, y := range b {
			if len(x)+len(y) > l.most {
				break
			}
			if l.text == "" || strings.Contains(l.text, x+y) {
				all[x+y] = true
			}
		}
	}
	return all
}

// of returns the strings of a form.
func (l lang) of(form []int) words {
	all := words{"": true}
	for _, x := range form {
		all = l.joined(all, l.words[letter(x)])
	}
	return all
}

// sentences are what Sentences is to return for g.
func (l lang) sentences(g api.Grammar) ([]string, api.Errno) {
	for i := range g.Names {
		if len(l.words[letter(16+i)]) > 600 {
			return nil, api.ErrStrings
		}
	}
	return l.words[letter(g.Start)], api.OK
}

// firsts returns the first strings of the nonterminals of g that derive any: again and again, the first of all strings that productions of known ones give becomes known.
// No string comes before those of its parts, so that nothing before it can be found later.
func firsts(g api.Grammar) map[byte]string {
	known := map[byte]string{}
	for i := range g.Tokens {
		known[letter(i)] = string(letter(i))
	}
	for {
		var left byte
		best := ""
		for _, p := range g.Prods {
			if _, is := known[letter(p.Left)]; is {
				continue
			}
			if s, is := firstOf(known, p.Right); is && (left == 0 || compare(s, best) < 0) {
				left, best = letter(p.Left), s
			}
		}
		if left == 0 {
			return known
		}
		known[left] = best
	}
}

// firstOf returns the first strings of the symbols of a form, one behind the other, and whether all of them are known.
func firstOf(known map[byte]string, form []int) (string, bool) {
	var s strings.Builder
	for _, x := range form {
		first, is := known[letter(x)]
		if !is {
			return "", false
		}
		s.WriteString(first)
	}
	return s.String(), true
}

// wantLeast is what Least is to return.
func wantLeast(g api.Grammar) ([]int, api.Errno) {
	known := firsts(g)
	var l []int
	for i := range g.Names {
		s, is := known[letter(16+i)]
		if !is {
			return nil, api.ErrYield
		}
		l = append(l, len(s))
	}
	return l, api.OK
}

// wantShortest is what Shortest is to return for a form of g.
func wantShortest(g api.Grammar, form []int) (string, api.Errno) {
	if _, e := wantLeast(g); e != api.OK {
		return "", e
	}
	s, _ := firstOf(firsts(g), form)
	if len(s) > 200 {
		return "", api.ErrLong
	}
	return s, api.OK
}

// wantStep is what Step is to return for a form of g, in letters.
func wantStep(g api.Grammar, form string, p int) (string, api.Errno) {
	if p < 0 || p >= len(g.Prods) {
		return "", api.ErrRange
	}
	place := strings.IndexAny(form, "STUVWXYZ")
	if place < 0 {
		return "", api.ErrMissing
	}
	if form[place] != letter(g.Prods[p].Left) {
		return "", api.ErrRule
	}
	next := form[:place] + text(g.Prods[p].Right) + form[place+1:]
	if len(next) > 200 {
		return "", api.ErrFull
	}
	return next, api.OK
}

// isCheck demands that Check says this.
func isCheck(t *testing.T, g api.Grammar, form []int, err api.Errno) {
	t.Helper()
	if e := derive.Check(g, form); e != err {
		t.Errorf("Check(%s, %v): %v, not %v", show(g), form, e, err)
	}
}

// isLeftmost demands that Leftmost says this.
func isLeftmost(t *testing.T, g api.Grammar, form []int, want int, err api.Errno) {
	t.Helper()
	if n, e := derive.Leftmost(g, form); n != want || e != err {
		t.Errorf("Leftmost(%s, %v): %d, %v, not %d, %v", show(g), form, n, e, want, err)
	}
}

// isStep demands that Step says this.
func isStep(t *testing.T, g api.Grammar, form []int, p int, want string, err api.Errno) {
	t.Helper()
	if l, e := derive.Step(g, form, p); text(l) != want || e != err {
		t.Errorf("Step(%s, %v, %d): %v, %v, not %s, %v", show(g), form, p, l, e, want, err)
	}
}

// isRun demands that Run says this.
func isRun(t *testing.T, g api.Grammar, prods []int, want string, err api.Errno) {
	t.Helper()
	if l, e := derive.Run(g, prods); text(l) != want || e != err {
		t.Errorf("Run(%s, %v): %v, %v, not %s, %v", show(g), prods, l, e, want, err)
	}
}

// isLeast demands that Least says this.
func isLeast(t *testing.T, g api.Grammar, want []int, err api.Errno) {
	t.Helper()
	if l, e := derive.Least(g); !slices.Equal(l, want) || e != err {
		t.Errorf("Least(%s): %v, %v, not %v, %v", show(g), l, e, want, err)
	}
}

// isShortest demands that Shortest says this.
func isShortest(t *testing.T, g api.Grammar, form []int, want string, err api.Errno) {
	t.Helper()
	if l, e := derive.Shortest(g, form); text(l) != want || e != err {
		t.Errorf("Shortest(%s, %v): %v, %v, not %s, %v", show(g), form, l, e, want, err)
	}
}

// isSentences demands that Sentences says this.
func isSentences(t *testing.T, g api.Grammar, most int, want []string, err api.Errno) {
	t.Helper()
	l, e := derive.Sentences(g, most)
	if !slices.EqualFunc(l, want, func(s []int, word string) bool { return text(s) == word }) || e != err {
		t.Errorf("Sentences(%s, %d): %d %v, %v, not %d %v, %v", show(g), most, len(l), l[:min(len(l), 20)], e, len(want), want[:min(len(want), 20)], err)
	}
}

// isDerives demands that Derives says this.
func isDerives(t *testing.T, g api.Grammar, form, word []int, want bool, err api.Errno) {
	t.Helper()
	if is, e := derive.Derives(g, form, word); is != want || e != err {
		t.Errorf("Derives(%s, %v, %v): %v, %v, not %v, %v", show(g), form, word, is, e, want, err)
	}
}

// The rows of the examples.
func TestExamples(t *testing.T) {
	g := example()
	isStep(t, g, form("S"), 0, "aSb", api.OK)
	isStep(t, g, form("aSb"), 1, "aTb", api.OK)
	isStep(t, g, form("aSb"), 2, "", api.ErrRule)
	isStep(t, g, form("ab"), 0, "", api.ErrMissing)
	isStep(t, g, form("S"), 4, "", api.ErrRange)
	isRun(t, g, []int{0, 1, 2}, "abb", api.OK)
	isRun(t, g, nil, "S", api.OK)
	isRun(t, g, []int{2}, "", api.ErrRule)
	isLeftmost(t, g, form("aSb"), 1, api.OK)
	isLeftmost(t, g, form("ab"), 0, api.ErrMissing)
	isCheck(t, g, []int{2}, api.ErrSymbol)
	isLeast(t, g, []int{1, 1}, api.OK)
	isShortest(t, g, form("ST"), "bb", api.OK)
	isShortest(t, g, form("aS"), "ab", api.OK)
	isSentences(t, g, 3, []string{"b", "bb", "abb", "bbb"}, api.OK)
	isSentences(t, g, 0, nil, api.OK)
	isSentences(t, g, 13, nil, api.ErrRange)
	isDerives(t, g, form("S"), form("abb"), true, api.OK)
	isDerives(t, g, form("S"), form("ab"), false, api.OK)
	isDerives(t, g, form("T"), form("bbbb"), true, api.OK)
	isDerives(t, g, nil, nil, true, api.OK)
}

// P19.1: which symbols forms have, alone and among others.
func TestSymbols(t *testing.T) {
	for terms := 1; terms <= 8; terms++ {
		for nonterms := 1; nonterms <= 8; nonterms++ {
			g := with(terms, nonterms)
			for i := range nonterms {
				g.Prods = append(g.Prods, prod(letter(16+i), "a"))
			}
			for x := -40; x < 80; x++ {
				isSymbol(t, g, x, x >= 0 && x < terms || x >= 16 && x < 16+nonterms)
			}
			for _, x := range strange {
				isSymbol(t, g, x, false)
			}
		}
	}
}

// isSymbol demands that x may stand in forms of g, or may not.
func isSymbol(t *testing.T, g api.Grammar, x int, is bool) {
	t.Helper()
	for _, form := range [][]int{{x}, {x, 0}, {16, x}, {0, x, 16}} {
		err := api.OK
		if !is {
			err = api.ErrSymbol
			isLeftmost(t, g, form, 0, err)
			isStep(t, g, form, 0, "", err)
			isShortest(t, g, form, "", err)
			isDerives(t, g, form, nil, false, err)
		}
		isCheck(t, g, form, err)
	}
}

// P19.1, R1: forms have at most 200 symbols, and this is asked before which ones they are.
func TestLengthsOfForms(t *testing.T) {
	g := rules(1, "S=|aS|SS")
	for n := range 203 {
		dull, full := make([]int, n), slices.Repeat([]int{16}, n)
		isLong(t, g, dull, n > 200)
		isLong(t, g, full, n > 200)
		if n > 200 {
			isLong(t, g, append(dull, 99), true)
			isLong(t, g, append([]int{-1}, full...), true)
			continue
		}
		isShortest(t, g, dull, text(dull), api.OK)
		isShortest(t, g, full, "", api.OK)
		isDerives(t, g, full, form("aaaaaaaaaaaa"), n > 0, api.OK)
		isDerives(t, g, dull, form("aaaaaaaaaaaa"), n == 12, api.OK)
	}
	isLong(t, g, make([]int, 1<<20), true)
}

// isLong demands that the form is too long, or is not.
func isLong(t *testing.T, g api.Grammar, form []int, is bool) {
	t.Helper()
	if !is {
		isCheck(t, g, form, api.OK)
		return
	}
	isCheck(t, g, form, api.ErrFull)
	isLeftmost(t, g, form, 0, api.ErrFull)
	isStep(t, g, form, 0, "", api.ErrFull)
	isShortest(t, g, form, "", api.ErrFull)
	isDerives(t, g, form, nil, false, api.ErrFull)
}

// alone demands that all functions return err for g, and nothing else, whatever they are asked for.
func alone(t *testing.T, g api.Grammar, err api.Errno) {
	t.Helper()
	for _, form := range [][]int{nil, {16}, {0}, {99}, make([]int, 201)} {
		isCheck(t, g, form, err)
		isLeftmost(t, g, form, 0, err)
		isShortest(t, g, form, "", err)
		for _, p := range []int{-1, 0, 1, 99} {
			isStep(t, g, form, p, "", err)
		}
		for _, word := range [][]int{nil, {0}, {16}, make([]int, 13)} {
			isDerives(t, g, form, word, false, err)
		}
	}
	for _, prods := range [][]int{nil, {0}, {99}, make([]int, 1001)} {
		isRun(t, g, prods, "", err)
	}
	isLeast(t, g, nil, err)
	for _, most := range []int{-1, 0, 3, 12, 13} {
		isSentences(t, g, most, nil, err)
	}
}

// P19.1, R1, R3: all functions return the error of grammar.Check first, and alone.
func TestErrorsOfGrammars(t *testing.T) {
	for _, c := range []struct {
		change func(g *api.Grammar)
		err    api.Errno
	}{
		{func(g *api.Grammar) { g.K = 0 }, api.ErrRange},
		{func(g *api.Grammar) { g.K = 5 }, api.ErrRange},
		{func(g *api.Grammar) { *g = api.Grammar{} }, api.ErrRange},
		{func(g *api.Grammar) { g.Prods[0].Right = make([]int, 7) }, api.ErrFull},
		{func(g *api.Grammar) { g.Prods = slices.Repeat(g.Prods, 7) }, api.ErrFull},
		{func(g *api.Grammar) { g.Tokens = nil }, api.ErrShort},
		{func(g *api.Grammar) { g.Names = nil }, api.ErrShort},
		{func(g *api.Grammar) { g.Sep = "S" }, api.ErrName},
		{func(g *api.Grammar) { g.Tokens[1] = "a" }, api.ErrExists},
		{func(g *api.Grammar) { g.Start = 18 }, api.ErrSymbol},
		{func(g *api.Grammar) { g.Prods[0].Right[0] = 2 }, api.ErrSymbol},
		{func(g *api.Grammar) { g.Prods[0].Left = 99 }, api.ErrSymbol},
		{func(g *api.Grammar) { slices.Reverse(g.Prods) }, api.ErrOrder},
		{func(g *api.Grammar) { g.Prods = g.Prods[:2] }, api.ErrMissing},
	} {
		g := clone(example())
		c.change(&g)
		if e := grammar.Check(g); e != c.err {
			t.Fatalf("%s: %v", show(g), e)
		}
		alone(t, g, c.err)
	}
}

// P19.1, P19.2: the places of forms, and all steps, held against strings of letters.
func TestSteps(t *testing.T) {
	r := rand.New(rand.NewSource(19))
	count := map[api.Errno]int{}
	for _, g := range grammars(1, 150, 8) {
		for range 20 {
			f := anyForm(r, g, r.Intn(5), 1+r.Intn(12))
			if r.Intn(3) == 0 {
				f = append(f, anyForm(r, g, 4, 199-len(f))...)
				f = append(f, slices.Repeat([]int{anySymbol(r, g, 2)}, min(r.Intn(200), 199-len(f)))...)
			}
			isCheck(t, g, f, api.OK)
			if place := strings.IndexAny(text(f), "STUVWXYZ"); place < 0 {
				isLeftmost(t, g, f, 0, api.ErrMissing)
			} else {
				isLeftmost(t, g, f, place, api.OK)
			}
			for p := -1; p <= len(g.Prods); p++ {
				want, e := wantStep(g, text(f), p)
				isStep(t, g, f, p, want, e)
				count[e]++
			}
			for _, p := range strange {
				isStep(t, g, f, p, "", api.ErrRange)
			}
		}
	}
	if len(count) != 5 || count[api.OK] < 2000 || count[api.ErrFull] < 20 || count[api.ErrRule] < 2000 || count[api.ErrMissing] < 2000 {
		t.Errorf("the forms are too much alike: %v", count)
	}
}

// P19.2: what a form may have after a step.
func TestLengthsOfSteps(t *testing.T) {
	g := rules(1, "S=|a|aa|aSa|aaaa|aaaaa|aaaaaS T=S")
	for n := 180; n <= 200; n++ {
		for _, place := range []int{0, 1, 100, n - 1} {
			f := make([]int, n)
			f[place] = 16
			before := text(f)
			for p := range g.Prods[:7] {
				want, e := wantStep(g, before, p)
				isStep(t, g, f, p, want, e)
			}
			isStep(t, g, f, 7, "", api.ErrRule)
		}
	}
}

// P19.2, R1: the errors of Step in their order, two at a time.
func TestOrderOfErrorsOfStep(t *testing.T) {
	g := rules(2, "S=aaa T=bbb|")
	full := make([]int, 200)
	isStep(t, g, []int{-1}, 9, "", api.ErrSymbol)
	isStep(t, g, []int{15, 16}, 0, "", api.ErrSymbol)
	isStep(t, g, full, 9, "", api.ErrRange)
	isStep(t, g, full, -1, "", api.ErrRange)
	isStep(t, g, full, 0, "", api.ErrMissing)
	isStep(t, g, nil, 0, "", api.ErrMissing)
	full[199] = 16
	isStep(t, g, full, 3, "", api.ErrRange)
	isStep(t, g, full, 1, "", api.ErrRule)
	isStep(t, g, full, 0, "", api.ErrFull)
	full[3] = 17
	isStep(t, g, full, 0, "", api.ErrRule)
	isStep(t, g, full, 1, "", api.ErrFull)
	isStep(t, g, full, 2, text(slices.Delete(slices.Clone(full), 3, 4)), api.OK)
}

// P19.2: Run does the steps one after the other, up to the first one that has an error.
func TestRuns(t *testing.T) {
	r := rand.New(rand.NewSource(20))
	count := map[api.Errno]int{}
	for _, g := range grammars(2, 200, 4) {
		for range 30 {
			now, err := string(letter(g.Start)), api.OK
			var prods []int
			for range r.Intn(150) {
				p := r.Intn(len(g.Prods)+2) - 1
				if place := strings.IndexAny(now, "STUVWXYZ"); err == api.OK && place >= 0 && r.Intn(60) > 0 {
					l, _ := grammar.Prods(g, symbol(now[place]))
					p = slices.MaxFunc([]int{l[r.Intn(len(l))], l[r.Intn(len(l))]}, func(p, q int) int { return cmp.Compare(len(g.Prods[p].Right), len(g.Prods[q].Right)) })
				}
				prods = append(prods, p)
				if err == api.OK {
					now, err = wantStep(g, now, p)
				}
			}
			isRun(t, g, prods, now, err)
			count[err]++
		}
	}
	if len(count) != 5 || count[api.OK] < 500 || count[api.ErrRange] < 500 || count[api.ErrMissing] < 500 || count[api.ErrRule] < 300 || count[api.ErrFull] < 20 {
		t.Errorf("the derivations are too much alike: %v", count)
	}
}

// P19.2, R1: derivations have at most 1,000 productions, and this is asked before which ones they are.
func TestLengthsOfRuns(t *testing.T) {
	g := rules(2, "S=S|bS|b")
	isRun(t, g, make([]int, 1000), "S", api.OK)
	isRun(t, g, append(make([]int, 999), 2), "b", api.OK)
	isRun(t, g, append(make([]int, 999), 3), "", api.ErrRange)
	isRun(t, g, make([]int, 1001), "", api.ErrFull)
	isRun(t, g, append(make([]int, 1000), 2), "", api.ErrFull)
	isRun(t, g, append([]int{-1}, make([]int, 1000)...), "", api.ErrFull)
	isRun(t, g, make([]int, 1<<20), "", api.ErrFull)
	for n := 190; n < 210; n++ {
		if n < 200 {
			isRun(t, g, slices.Repeat([]int{1}, n), strings.Repeat("b", n)+"S", api.OK)
		} else {
			isRun(t, g, slices.Repeat([]int{1}, n), "", api.ErrFull)
		}
	}
	for _, p := range strange {
		isRun(t, g, []int{1, p}, "", api.ErrRange)
		isRun(t, g, []int{1, 2, p}, "", api.ErrRange)
	}
	isRun(t, g, []int{2, 2, -1}, "", api.ErrMissing)
	// The start is not the first nonterminal.
	h := example()
	h.Start = 17
	isRun(t, h, nil, "T", api.OK)
	isRun(t, h, []int{3, 2}, "bT", api.OK)
}

// P19.3: the least numbers and the first strings, held against strings that become known one after the other.
func TestFirstStrings(t *testing.T) {
	r := rand.New(rand.NewSource(21))
	count := map[api.Errno]int{}
	for _, g := range grammars(3, 800, 4) {
		least, e := wantLeast(g)
		isLeast(t, g, least, e)
		for i := range g.Names {
			want, e := wantShortest(g, []int{16 + i})
			isShortest(t, g, []int{16 + i}, want, e)
			count[e]++
		}
		for range 10 {
			f := anyForm(r, g, r.Intn(4), 1+r.Intn(20))
			want, e := wantShortest(g, f)
			isShortest(t, g, f, want, e)
			count[e]++
		}
	}
	if len(count) < 2 || count[api.OK] < 3000 || count[api.ErrYield] < 1000 {
		t.Errorf("the grammars are too much alike: %v", count)
	}
}

// P19.3: the first string is the first one of all strings.
func TestFirstOfAllStrings(t *testing.T) {
	r := rand.New(rand.NewSource(22))
	found := 0
	for _, g := range grammars(4, 300, 2) {
		if _, e := derive.Least(g); e != api.OK {
			continue
		}
		l := langOf(g, 6, "")
		for range 10 {
			f := anyForm(r, g, 1, 4)
			if all := inOrder(l.of(f)); len(all) > 0 {
				isShortest(t, g, f, all[0], api.OK)
				found++
			}
		}
	}
	if found < 1000 {
		t.Errorf("the grammars are too much alike: %d", found)
	}
}

// P19.3, R1: a nonterminal without strings is an error for all forms, and comes before those that are too long.
func TestNonterminalsWithoutStrings(t *testing.T) {
	for _, text := range []string{"S=aT T=T", "S=a T=TT|aTb U=|b", "S=| T=b U=V V=aU", "S=S T=bbbbbb|"} {
		g := rules(2, text)
		isLeast(t, g, nil, api.ErrYield)
		for _, f := range [][]int{nil, {0}, {16}, {17, 0}, make([]int, 200), slices.Repeat([]int{17}, 200)} {
			isShortest(t, g, f, "", api.ErrYield)
		}
		isShortest(t, g, make([]int, 201), "", api.ErrFull)
		isShortest(t, g, []int{8}, "", api.ErrSymbol)
	}
}

// chain returns the grammar in which each nonterminal is replaced by six of the next one, and the last one by that many terminals.
func chain(last int) api.Grammar {
	g := with(2, 8)
	for i := range 7 {
		g.Prods = append(g.Prods, api.Prod{Left: 16 + i, Right: slices.Repeat([]int{17 + i}, 6)})
	}
	g.Prods = append(g.Prods, api.Prod{Left: 23, Right: make([]int, last)})
	return g
}

// P19.3, R7: strings of up to 200 terminals, and great numbers.
func TestLongStrings(t *testing.T) {
	for last := range 7 {
		g := chain(last)
		least := make([]int, 8)
		for i, n := 7, last; i >= 0; i, n = i-1, 6*n {
			least[i] = n
		}
		isLeast(t, g, least, api.OK)
		for i := range least {
			for n := range 201 {
				f := slices.Repeat([]int{16 + i}, n)
				if least[i]*n > 200 {
					isShortest(t, g, f, "", api.ErrLong)
				} else if n < 3 || n > 30 {
					isShortest(t, g, f, strings.Repeat("a", least[i]*n), api.OK)
				}
			}
		}
	}
	g := chain(4)
	// X, Y and Z have 144, 24 and 4 terminals.
	isShortest(t, g, form("X"+strings.Repeat("b", 56)), strings.Repeat("a", 144)+strings.Repeat("b", 56), api.OK)
	isShortest(t, g, form("X"+strings.Repeat("b", 57)), "", api.ErrLong)
	isShortest(t, g, form(strings.Repeat("b", 57)+"X"), "", api.ErrLong)
	isShortest(t, g, form("XYYZZ"), strings.Repeat("a", 200), api.OK)
	isShortest(t, g, form("XYYZZb"), "", api.ErrLong)
	// There are two ways to 200 terminals, and the second one leads to the first string.
	h := rules(2, "S=TTTTT|UUUUU T=ZZZZZ U=YYYYY V=S W=aSb X=aaa Y=aaXX Z=bbXX")
	isLeast(t, h, []int{200, 40, 40, 200, 202, 3, 8, 8}, api.OK)
	isShortest(t, h, form("S"), strings.Repeat("a", 200), api.OK)
	isShortest(t, h, form("V"), strings.Repeat("a", 200), api.OK)
	isShortest(t, h, form("TTTTT"), strings.Repeat("bbaaaaaa", 25), api.OK)
	for _, long := range []string{"W", "aS", "Va", "SX", "SS", "TTTTTU"} {
		isShortest(t, h, form(long), "", api.ErrLong)
	}
}

// P19.3: first strings that come to be known late, and that change after they are known.
func TestStringsThatChange(t *testing.T) {
	isShortest(t, rules(2, "S=T T=U U=V V=W W=X X=Y Y=Z Z=b|a"), form("S"), "a", api.OK)
	isShortest(t, rules(2, "S=bb|T T=ba|U U=ab|V V=aa"), form("STU"), "aaaaaa", api.OK)
	isShortest(t, rules(2, "S=bb|TT T=b|U U=a|S"), form("ST"), "aaa", api.OK)
	isShortest(t, rules(2, "S=bTT|Tb T=|a"), form("S"), "b", api.OK)
	isShortest(t, rules(2, "S=ba|TU T=b|a U=b|a"), form("S"), "aa", api.OK)
	isShortest(t, rules(3, "S=Tc|bT T=c|b|a"), form("SS"), "acac", api.OK)
	isShortest(t, rules(2, "S=bbb|TTT T=aa|b"), form("ST"), "bbbb", api.OK)
	// A longer string does not come first, though its terminals do.
	isShortest(t, rules(2, "S=aa|b T=aS|b"), form("ST"), "bb", api.OK)
	isShortest(t, rules(2, "S=aa|bb|ba T=S|abb"), form("T"), "aa", api.OK)
}

// P19.4: sentences and derivations, held against whole sets of strings.
func TestAllStrings(t *testing.T) {
	r := rand.New(rand.NewSource(23))
	mosts := []int{0, 12, 6, 4, 3, 3, 3, 3, 3}
	count := map[bool]int{}
	sentences := 0
	for _, g := range grammars(5, 300, 8) {
		most := mosts[len(g.Tokens)] - min(r.Intn(4), r.Intn(4))
		l := langOf(g, most, "")
		want, e := l.sentences(g)
		isSentences(t, g, most, want, e)
		sentences += len(want)
		all := universe(len(g.Tokens), min(most, 5))
		for range 6 {
			f := anyForm(r, g, 1, r.Intn(5))
			if r.Intn(3) == 0 {
				f = []int{g.Start}
			}
			strings := l.of(f)
			for _, word := range all {
				isDerives(t, g, f, form(word), strings[word], api.OK)
				count[strings[word]]++
			}
		}
	}
	if sentences < 2000 || count[true] < 5000 || count[false] < 50000 {
		t.Errorf("the grammars are too much alike: %d, %v", sentences, count)
	}
}

// P19.4: sets of about 600 strings, and more.
func TestManyStrings(t *testing.T) {
	r := rand.New(rand.NewSource(24))
	mosts := []int{0, 0, 10, 6, 5, 4}
	count := map[api.Errno]int{}
	great := 0
	for range 300 {
		terms, nonterms := 2+r.Intn(4), 1+r.Intn(3)
		g := random(r, terms, nonterms, 24, 2+r.Intn(3))
		most := mosts[terms] - min(r.Intn(3), r.Intn(3))
		want, e := langOf(g, most, "").sentences(g)
		isSentences(t, g, most, want, e)
		count[e]++
		if len(want) > 50 {
			great++
		}
	}
	if count[api.OK] < 80 || count[api.ErrStrings] < 10 || great < 10 {
		t.Errorf("the grammars are too much alike: %v, %d", count, great)
	}
}

// product returns a grammar in which the start derives eight, five, five and three terminals one behind the other, that is 600 strings, and these others.
func product(others ...string) api.Grammar {
	g := rules(8, "S=TUUV T=a|b|c|d|e|f|g|h U=a|b|c|d|e V=a|b|c")
	for _, s := range others {
		g.Prods = append([]api.Prod{prod('S', s)}, g.Prods...)
	}
	return g
}

// P19.4: a nonterminal may derive 600 strings, be it the start, another one, or one that is not reached.
func TestSixHundredStrings(t *testing.T) {
	all := inOrder(langOf(product(), 4, "").of(form("TUUV")))
	if len(all) != 600 {
		t.Fatal(len(all))
	}
	many := append([]string{""}, all...)
	for most := range 13 {
		want, more, err := all, many, api.ErrStrings
		if most < 4 {
			want, more, err = nil, many[:1], api.OK
		}
		if err != api.OK {
			more = nil
		}
		isSentences(t, product(), most, want, api.OK)
		isSentences(t, product("aaaa", "haec"), most, want, api.OK)
		isSentences(t, product(""), most, more, err)
		g := product("")
		g.Names = append(g.Names, "W")
		g.Prods = append(g.Prods, prod('W', "ab"))
		g.Start = symbol('W')
		if err == api.OK && most >= 2 {
			isSentences(t, g, most, []string{"ab"}, api.OK)
		} else {
			isSentences(t, g, most, nil, err)
		}
		g.Prods[len(g.Prods)-1].Right = form("S")
		isSentences(t, g, most, more, err)
	}
	// The 601st string is a longer one.
	for most := 4; most < 13; most++ {
		if g := product("aaaaaa"); most < 6 {
			isSentences(t, g, most, all, api.OK)
		} else {
			isSentences(t, g, most, nil, api.ErrStrings)
		}
	}
}

// P19.4: parts that have many strings together, but only few where there is room for the rest.
func TestRoomForTheRest(t *testing.T) {
	twelve := []string{strings.Repeat("a", 12)}
	for _, c := range []struct {
		text string
		want []string
	}{
		// T derives 585 strings, which are not joined where twelve terminals follow or come before, or no string at all.
		{"S=TTTTTV T=UUU U=|a|b|c|d|e|f|g|h V=WW W=aaaaaa", twelve},
		{"S=VTTTTT T=UUU U=|a|b|c|d|e|f|g|h V=WW W=aaaaaa", twelve},
		{"S=TTVTTV T=UUU U=|a|b|c|d|e|f|g|h V=aaaaaa", twelve},
		{"S=TTTTTV|a T=UUU U=|a|b|c|d|e|f|g|h V=V|aV", []string{"a"}},
		{"S=VTTTTT|a T=UUU U=|a|b|c|d|e|f|g|h V=V|aV", []string{"a"}},
		{"S=TTTTTV|a T=UUU U=|a|b|c|d|e|f|g|h V=WWa W=aaaaaa", []string{"a"}},
	} {
		isSentences(t, rules(8, c.text), 12, c.want, api.OK)
	}
	var nine []string
	for _, s := range universe(8, 3) {
		nine = append(nine, s+"aaaaaaaaa")
	}
	slices.SortFunc(nine, compare)
	isSentences(t, rules(8, "S=TTTTTV T=UUU U=|a|b|c|d|e|f|g|h V=WWW W=aaa"), 12, nine, api.OK)
	isSentences(t, rules(8, "S=TTTTTV T=UUU U=|a|b|c|d|e|f|g|h V=WW W=aaaa"), 12, nil, api.ErrStrings)
	isSentences(t, rules(8, "S=TTTTTT T=UUUUUU U=VVVVVV V=a|b|c|d|e|f|g|h"), 5, nil, api.OK)
	isSentences(t, rules(8, "S=TTTTTT T=UUUUUU U=VVVVVV V=a|b|c|d|e|f|g|h"), 6, nil, api.ErrStrings)
	isSentences(t, rules(8, "S=TTTTTT T=UUU U=|a|b|c|d|e|f|g|h"), 12, nil, api.ErrStrings)
	isSentences(t, rules(8, "S=|SSSSSS|a|b|c|d|e|f|g|h"), 12, nil, api.ErrStrings)
	isSentences(t, rules(8, "S=|SSSSSS|a|b|c|d|e|f|g|h"), 3, universe(8, 3), api.OK)
	isSentences(t, rules(2, "S=|SSSSSS|a|b"), 8, universe(2, 8), api.OK)
	isSentences(t, rules(1, "S=|SSSSSS|a"), 12, universe(1, 12), api.OK)
	isSentences(t, rules(2, "S=T T=U U=V V=W W=X X=Y Y=Z Z=Sb|aa"), 5, []string{"aa", "aab", "aabb", "aabbb"}, api.OK)
	isSentences(t, rules(2, "S=Ta|Tb T=U U=V V=W W=X X=Y Y=Z Z=|S"), 8, universe(2, 8)[1:], api.OK)
}

// P19.4, R1: Sentences asks for the number first.
func TestNumbersOfSentences(t *testing.T) {
	for _, g := range []api.Grammar{example(), product(""), rules(1, "S=S")} {
		for most := -30; most < 50; most++ {
			if most < 0 || most > 12 {
				isSentences(t, g, most, nil, api.ErrRange)
			}
		}
		for _, most := range strange {
			isSentences(t, g, most, nil, api.ErrRange)
		}
	}
	isSentences(t, rules(1, "S=S"), 12, nil, api.OK)
	isSentences(t, rules(1, "S=|S"), 0, []string{""}, api.OK)
	isSentences(t, rules(1, "S=aT T=T"), 12, nil, api.OK)
}

// P19.4: long strings, held against sets of their parts.
func TestParts(t *testing.T) {
	r := rand.New(rand.NewSource(25))
	count := map[bool]int{}
	for _, g := range grammars(7, 500, 4) {
		for range 5 {
			word := anyWord(r, g, 12)
			if s := anySentence(r, g); len(s) > 0 {
				word = s
			}
			if len(word) == 0 {
				continue
			}
			l := langOf(g, len(word), text(word))
			for _, f := range [][]int{{g.Start}, anyForm(r, g, 0, 3), anyForm(r, g, 1, 6), anyForm(r, g, 2, 20)} {
				want := l.of(f)[text(word)]
				isDerives(t, g, f, word, want, api.OK)
				count[want]++
			}
		}
	}
	if count[true] < 1000 || count[false] < 1000 {
		t.Errorf("the grammars are too much alike: %v", count)
	}
}

// anySentence goes from the start on by productions at random, and returns the string of terminals to which they lead, if there is one and it has at most 12.
func anySentence(r *rand.Rand, g api.Grammar) []int {
	now := string(letter(g.Start))
	for range 40 {
		place := strings.IndexAny(now, "STUVWXYZ")
		if place < 0 && len(now) <= 12 {
			return form(now)
		}
		if place < 0 || len(now) > 30 {
			return nil
		}
		l, _ := grammar.Prods(g, symbol(now[place]))
		now, _ = wantStep(g, now, l[r.Intn(len(l))])
	}
	return nil
}

// rights returns all right sides of at most two of these letters.
func rights(letters string) []string {
	l := []string{""}
	for _, x := range strings.Split(letters, "") {
		l = append(l, x)
		for _, y := range strings.Split(letters, "") {
			l = append(l, x+y)
		}
	}
	return l
}

// tiny are all grammars of one nonterminal with two productions, or of two with two and one, of at most two symbols each, but for the order of the two.
func tiny() []api.Grammar {
	var l []api.Grammar
	one, two := rights("abS"), rights("abST")
	for i, p := range one {
		for _, q := range one[:i+1] {
			l = append(l, with(2, 1, prod('S', p), prod('S', q)))
		}
	}
	for i, p := range two {
		for _, q := range two[:i+1] {
			for _, x := range two {
				l = append(l, with(2, 2, prod('S', p), prod('S', q), prod('T', x)))
			}
		}
	}
	return l
}

// derived goes through all forms of at most width symbols that S derives, and returns the strings of at most most terminals among them.
func derived(g api.Grammar, width, most int) words {
	forms, next, found := words{"S": true}, []string{"S"}, words{}
	for len(next) > 0 {
		now := next[0]
		next = next[1:]
		if len(now) <= most && !strings.ContainsAny(now, "ST") {
			found[now] = true
		}
		for p := range g.Prods {
			if x, e := wantStep(g, now, p); e == api.OK && len(x) <= width && !forms[x] {
				forms[x] = true
				next = append(next, x)
			}
		}
	}
	return found
}

// P19.4: sentences, and what the start derives, held against the derivations themselves.
func TestDerivations(t *testing.T) {
	all := universe(2, 3)
	for _, g := range tiny() {
		found := derived(g, 6, 3)
		isSentences(t, g, 3, inOrder(found), api.OK)
		for _, word := range all {
			isDerives(t, g, form("S"), form(word), found[word], api.OK)
		}
	}
}

// P19.4, R1: the errors of Derives in their order.
func TestErrorsOfDerives(t *testing.T) {
	g := example()
	for n := range 20 {
		word := slices.Repeat([]int{1}, n)
		if n > 12 {
			isDerives(t, g, form("T"), word, false, api.ErrFull)
			word[n-1] = 9
			isDerives(t, g, form("T"), word, false, api.ErrFull)
			isDerives(t, g, []int{9}, word, false, api.ErrSymbol)
			continue
		}
		isDerives(t, g, form("T"), word, n > 0, api.OK)
		for i := range word {
			for _, x := range slices.Concat(strange, []int{2, 3, 7, 8, 15, 16, 17, 18, 23}) {
				wrong := slices.Clone(word)
				wrong[i] = x
				isDerives(t, g, form("T"), wrong, false, api.ErrSymbol)
			}
		}
	}
	isDerives(t, g, make([]int, 201), make([]int, 13), false, api.ErrFull)
	isDerives(t, g, make([]int, 201), []int{2}, false, api.ErrFull)
	isDerives(t, g, nil, make([]int, 1<<20), false, api.ErrFull)
	isDerives(t, g, nil, []int{0}, false, api.OK)
	isDerives(t, g, form("ab"), nil, false, api.OK)
	// For each number of terminals, each symbol that is one or is none.
	for terms := 1; terms <= 8; terms++ {
		h := rules(terms, "S="+strings.Join(strings.Split("abcdefgh"[:terms], ""), "|"))
		for x := -20; x < 40; x++ {
			if x >= 0 && x < terms {
				isDerives(t, h, form("S"), []int{x}, true, api.OK)
			} else {
				isDerives(t, h, form("S"), []int{x}, false, api.ErrSymbol)
			}
		}
	}
}

// P19.4: left recursion, nonterminals that lead to each other, and such as derive nothing.
func TestDerivesWithCycles(t *testing.T) {
	twelve := form("abababababab")
	for _, c := range []struct {
		text string
		form string
		want bool
	}{
		{"S=Sb|Sa|", "S", true},
		{"S=T T=U|Tb U=S|Sa|", "S", true},
		{"S=SSSSSS|a|b|", "S", true},
		{"S=SSSSSS|ab|", "SS", true},
		{"S=SS|ba", "S", false},
		{"S=SS|ba", "aSb", true},
		{"S=S|T T=S|ab", "SSSSSS", true},
		{"S=S|T T=S|ab", "SSSSS", false},
		{"S=S|aS T=TT|ab", "TS", false},
		{"S=S|aS T=TT|ab", "T", true},
		{"S=T T=U U=V V=W W=X X=Y Y=Z Z=Sab|", "SS", true},
	} {
		isDerives(t, rules(2, c.text), form(c.form), twelve, c.want, api.OK)
	}
	// Long forms, and strings of all lengths.
	g := rules(2, "S=|SS|a T=|aTb")
	for n := range 13 {
		for _, f := range []string{strings.Repeat("S", 200), strings.Repeat("ST", 100), strings.Repeat("T", 199) + "S"} {
			isDerives(t, g, form(f), make([]int, n), true, api.OK)
		}
		isDerives(t, g, form(strings.Repeat("T", 200)), append(make([]int, n/2), slices.Repeat([]int{1}, n-n/2)...), n%2 == 0, api.OK)
	}
}

// P19.5: a derivation that ends in terminals ends in a sentence; steps keep what stands before the place.
func TestStepsLeadToSentences(t *testing.T) {
	r := rand.New(rand.NewSource(26))
	ended, steps := 0, 0
	for _, g := range grammars(8, 400, 3) {
		for range 10 {
			now, prods := []int{g.Start}, []int(nil)
			for range 30 {
				place, e := derive.Leftmost(g, now)
				if e != api.OK {
					break
				}
				l, _ := grammar.Prods(g, now[place])
				p := l[r.Intn(len(l))]
				next, e := derive.Step(g, now, p)
				if e == api.ErrFull {
					break
				}
				if e != api.OK || !slices.Equal(next[:place], now[:place]) || !slices.Equal(next[len(next)-len(now)+place+1:], now[place+1:]) {
					t.Fatalf("Step(%s, %v, %d): %v, %v", show(g), now, p, next, e)
				}
				now, prods = next, append(prods, p)
				steps++
			}
			isRun(t, g, prods, text(now), api.OK)
			if _, e := derive.Leftmost(g, now); e == api.ErrMissing && len(now) <= 12 {
				isDerives(t, g, []int{g.Start}, now, true, api.OK)
				ended++
			}
		}
	}
	if ended < 1000 || steps < 5000 {
		t.Errorf("the grammars are too much alike: %d, %d", ended, steps)
	}
}

// shortest returns what Shortest says of a form, which must be a string.
func shortest(t *testing.T, g api.Grammar, form []int) []int {
	t.Helper()
	l, e := derive.Shortest(g, form)
	if e != api.OK {
		t.Fatalf("Shortest(%s, %v): %v", show(g), form, e)
	}
	return l
}

// P19.6: the first strings have as many terminals as Least says, and are derived; that of two forms is that of both.
func TestShortestIsLeast(t *testing.T) {
	r := rand.New(rand.NewSource(27))
	found := 0
	for _, g := range grammars(9, 500, 4) {
		least, e := derive.Least(g)
		if e != api.OK || slices.Max(least) > 12 {
			continue
		}
		found++
		for i, n := range least {
			s := shortest(t, g, []int{16 + i})
			if len(s) != n {
				t.Errorf("%s: %d has %v, not %d terminals", show(g), i, s, n)
			}
			isDerives(t, g, []int{16 + i}, s, true, api.OK)
		}
		for range 10 {
			a, b := anyForm(r, g, 1, 8), anyForm(r, g, 1, 8)
			isShortest(t, g, slices.Concat(a, b), text(shortest(t, g, a))+text(shortest(t, g, b)), api.OK)
		}
	}
	if found < 200 {
		t.Errorf("the grammars are too much alike: %d", found)
	}
}

// P19.7, P19.8: sentences are derived, different, and in order; the first one is the shortest; with a greater number there are the same ones first.
func TestSentencesAgree(t *testing.T) {
	found, longer := 0, 0
	for _, g := range grammars(10, 250, 3) {
		var before [][]int
		for most := range 13 {
			l, e := derive.Sentences(g, most)
			if e == api.ErrStrings {
				break
			}
			if e != api.OK || !slices.IsSortedFunc(l, func(a, b []int) int { return compare(text(a), text(b)) }) {
				t.Fatalf("Sentences(%s, %d): %v, %v", show(g), most, l, e)
			}
			if len(before) > len(l) || !slices.EqualFunc(before, l[:len(before)], slices.Equal[[]int]) {
				t.Errorf("Sentences(%s, %d): %v, and %v before", show(g), most, l, before)
			}
			for i, s := range l[len(before):] {
				if len(s) != most || i > 0 && slices.Equal(l[i-1], s) {
					t.Errorf("Sentences(%s, %d): %v", show(g), most, l)
				}
				isDerives(t, g, []int{g.Start}, s, true, api.OK)
			}
			if s, e := derive.Shortest(g, []int{g.Start}); e == api.OK && len(s) <= most {
				if len(l) == 0 || !slices.Equal(l[0], s) {
					t.Errorf("Sentences(%s, %d): %v, without %v", show(g), most, l, s)
				}
				found++
			}
			if len(before) > 0 && len(before) < len(l) {
				longer++
			}
			before = l
		}
	}
	if found < 500 || longer < 300 {
		t.Errorf("the grammars are too much alike: %d, %d", found, longer)
	}
}

// P19.7: what is no sentence, Derives denies.
func TestSentencesAreAll(t *testing.T) {
	for _, g := range grammars(11, 120, 2) {
		l, e := derive.Sentences(g, 5)
		if e != api.OK {
			t.Fatalf("%s: %v", show(g), e)
		}
		is := words{}
		for _, s := range l {
			is[text(s)] = true
		}
		for _, word := range universe(len(g.Tokens), 5) {
			isDerives(t, g, []int{g.Start}, form(word), is[word], api.OK)
		}
	}
}

// R4: arguments stay as they are, and so does the room behind them.
func TestArgumentsStay(t *testing.T) {
	g := rules(2, "S=aSb|T|aab| T=b|")
	before := clone(g)
	for p := range g.Prods {
		g.Prods[p].Right = append(g.Prods[p].Right, 99, 99)[:len(g.Prods[p].Right)]
	}
	for _, s := range []string{"S", "T", "aS", "aT", "Sb", "aSbT", "aTbS", "abS", "TT", "ab"} {
		room := append(form(s), 77, 78, 79)
		f := room[:len(s)]
		kept := slices.Clone(room)
		for p := range g.Prods {
			want, e := wantStep(g, s, p)
			isStep(t, g, f, p, want, e)
		}
		isCheck(t, g, f, api.OK)
		derive.Leftmost(g, f)
		derive.Shortest(g, f)
		isDerives(t, g, f, f, s == "ab", map[bool]api.Errno{true: api.OK, false: api.ErrSymbol}[s == "ab"])
		if !slices.Equal(room, kept) {
			t.Errorf("%v, not %v", room, kept)
		}
	}
	room := []int{0, 0, 2, 77, 78}
	isRun(t, g, room[:3], "aaaabbb", api.OK)
	isDerives(t, g, form("S"), []int{0, 1, 1, 77}[:3], true, api.OK)
	isSentences(t, g, 2, []string{"", "b", "ab"}, api.OK)
	isLeast(t, g, []int{0, 0}, api.OK)
	if !slices.Equal(room, []int{0, 0, 2, 77, 78}) || !grammar.Same(g, before) {
		t.Errorf("%v, %s", room, show(g))
	}
	for p := range g.Prods {
		n := len(g.Prods[p].Right)
		if !slices.Equal(g.Prods[p].Right[n:n+2], []int{99, 99}) {
			t.Errorf("%d: %v", p, g.Prods[p].Right[:n+2])
		}
	}
}

// spoil overwrites l and the room behind it.
func spoil(l []int) {
	l = l[:cap(l)]
	for i := range l {
		l[i] = 88
	}
}

// R4: results share no memory with arguments or other results.
func TestNothingIsShared(t *testing.T) {
	g := rules(2, "S=aSb||T T=ba|")
	for _, s := range []string{"S", "aS", "abS", "Sb", "aSb", "T", "aT", "bTaS"} {
		for p := range g.Prods {
			want, err := wantStep(g, s, p)
			if err != api.OK {
				continue
			}
			f := form(s)
			x, _ := derive.Step(g, f, p)
			y, _ := derive.Step(g, f, p)
			spoil(x)
			if text(f) != s || text(y) != want {
				t.Errorf("%s, %d: %v, %v", s, p, f, y)
			}
			spoil(f)
			if text(y) != want {
				t.Errorf("%s, %d: %v", s, p, y)
			}
		}
	}
	for _, prods := range [][]int{nil, {0}, {1}, {2}, {2, 3}, {0, 2, 3}} {
		x, _ := derive.Run(g, prods)
		y, _ := derive.Run(g, prods)
		kept := slices.Clone(y)
		spoil(x)
		if !slices.Equal(y, kept) {
			t.Errorf("%v: %v", prods, y)
		}
		spoil(prods)
		if !slices.Equal(y, kept) {
			t.Errorf("%v: %v", prods, y)
		}
	}
	if !grammar.Same(g, rules(2, "S=aSb||T T=ba|")) {
		t.Errorf("%s", show(g))
	}
}

// R4: shortest strings, numbers and sentences share no memory with arguments or other results.
func TestStringsAreNotShared(t *testing.T) {
	g := rules(2, "S=aTb T=ba U=a|aa|b|bb")
	for _, s := range []string{"STab", "ab", "S", "T", "Ub"} {
		f := form(s)
		want, _ := wantShortest(g, f)
		x, _ := derive.Shortest(g, f)
		y, _ := derive.Shortest(g, f)
		spoil(x)
		if text(f) != s || text(y) != want {
			t.Errorf("%s: %v, %v", s, f, y)
		}
		spoil(f)
		if text(y) != want {
			t.Errorf("%s: %v", s, y)
		}
	}
	l, _ := derive.Least(g)
	spoil(l)
	isLeast(t, g, []int{4, 2, 1}, api.OK)
	spoiledSentences(t, g)
	if !grammar.Same(g, rules(2, "S=aTb T=ba U=a|aa|b|bb")) {
		t.Errorf("%s", show(g))
	}
}

// spoiledSentences overwrites each sentence in turn, with the room behind it, which the others must not notice.
func spoiledSentences(t *testing.T, g api.Grammar) {
	t.Helper()
	g.Start = symbol('U')
	want := []string{"a", "b", "aa", "bb"}
	again, _ := derive.Sentences(g, 2)
	for i := range want {
		l, _ := derive.Sentences(g, 2)
		spoil(l[i])
		for j := range want {
			if j != i && text(l[j]) != want[j] || text(again[j]) != want[j] {
				t.Errorf("%d, %d: %v, %v", i, j, l, again)
			}
		}
	}
	isSentences(t, g, 2, want, api.OK)
}

// R4: a nil list and an empty one are equal.
func TestNilAndEmpty(t *testing.T) {
	g := rules(1, "S=")
	for _, h := range []api.Grammar{g, clone(g)} {
		h.Prods[0].Right = []int{}
		for _, none := range [][]int{nil, {}} {
			isCheck(t, h, none, api.OK)
			isLeftmost(t, h, none, 0, api.ErrMissing)
			isStep(t, h, none, 0, "", api.ErrMissing)
			isRun(t, h, none, "S", api.OK)
			isShortest(t, h, none, "", api.OK)
			isDerives(t, h, none, none, true, api.OK)
			isDerives(t, h, form("S"), none, true, api.OK)
			isDerives(t, h, none, form("a"), false, api.OK)
		}
		isStep(t, h, form("S"), 0, "", api.OK)
		isRun(t, h, []int{0}, "", api.OK)
		isSentences(t, h, 3, []string{""}, api.OK)
	}
}

// R6: the same arguments lead to the same results each time.
func TestAgain(t *testing.T) {
	for _, g := range grammars(12, 40, 3) {
		l, e := derive.Sentences(g, 4)
		var want []string
		for _, s := range l {
			want = append(want, text(s))
		}
		first, err := derive.Shortest(g, []int{g.Start, 16})
		for range 5 {
			isSentences(t, g, 4, want, e)
			isShortest(t, g, []int{g.Start, 16}, text(first), err)
		}
	}
}

// pick returns one of the strange numbers, or a symbol of g.
func pick(r *rand.Rand, g api.Grammar) int {
	if r.Intn(3) > 0 {
		return anySymbol(r, g, 2)
	}
	return strange[r.Intn(len(strange))]
}

// P1, R5: no argument is too great or too strange.
func TestAllArgumentsAreTaken(t *testing.T) {
	r := rand.New(rand.NewSource(28))
	count := map[api.Errno]int{}
	for _, g := range grammars(13, 1500, 8) {
		g = clone(g)
		f, word, prods := anyForm(r, g, 1, 12), anyWord(r, g, 14), anyForm(r, g, 3, 6)
		for _, l := range [][]int{f, word, prods} {
			if len(l) > 0 && r.Intn(4) == 0 {
				l[r.Intn(len(l))] = pick(r, g)
			}
		}
		switch r.Intn(12) {
		case 0:
			g.K = pick(r, g)
		case 1:
			g.Start = pick(r, g)
		case 2:
			g.Prods[r.Intn(len(g.Prods))].Left = pick(r, g)
		case 3:
			i := r.Intn(len(g.Prods))
			g.Prods[i].Right = slices.Repeat([]int{pick(r, g)}, 1+r.Intn(7))
		case 4:
			f = slices.Repeat(f, 30)
		}
		for _, e := range anyErrors(g, f, word, prods, pick(r, g)) {
			count[e]++
		}
	}
	if len(count) < 10 || count[api.OK] < 2000 {
		t.Errorf("the arguments are too much alike: %v", count)
	}
}

// anyErrors calls all functions, and returns their errors.
func anyErrors(g api.Grammar, f, word, prods []int, n int) []api.Errno {
	l := []api.Errno{derive.Check(g, f)}
	_, e := derive.Leftmost(g, f)
	l = append(l, e)
	_, e = derive.Step(g, f, n)
	l = append(l, e)
	_, e = derive.Run(g, prods)
	l = append(l, e)
	_, e = derive.Least(g)
	l = append(l, e)
	_, e = derive.Shortest(g, f)
	l = append(l, e)
	_, e = derive.Sentences(g, n)
	l = append(l, e)
	_, e = derive.Derives(g, f, word)
	return append(l, e)
}
