package open_test

import (
	"maps"
	"math"
	"math/rand"
	"slices"
	"strconv"
	"strings"
	"testing"

	"stenotype/api"
	"stenotype/canon"
	"stenotype/grammar"
	"stenotype/open"
	"stenotype/predict"
	"stenotype/reach"
	"stenotype/recur"
	"stenotype/source"
	"stenotype/trie"
)

// Symbols are written as letters: a to h are the terminals 0 to 7, S to Z the nonterminals 16 to 23.

// strange are numbers that no grammar has as symbols or productions, and that no error has.
var strange = []int{math.MinInt, math.MinInt + 1, math.MinInt + 16, -257, -17, -16, -2, -1, 32, 40, 256, 1 << 16, 1 << 32, 1<<32 + 16, 1<<32 + 18, math.MaxInt - 16, math.MaxInt}

// refusals are the errors that a valid grammar may have, in their order.
var refusals = []api.Errno{api.ErrYield, api.ErrReach, api.ErrLeft, api.ErrStrings, api.ErrConflict, api.ErrEmpty}

// words is a set of strings of terminals.
type words map[string]bool

// symbol returns the symbol that is written as this letter.
func symbol(letter byte) int {
	if letter >= 'S' && letter <= 'Z' {
		return 16 + int(letter-'S')
	}
	return int(letter - 'a')
}

// letter returns the letter of a symbol.
func letter(symbol int) string {
	if symbol >= 16 {
		return string(rune('S' + symbol - 16))
	}
	return string(rune('a' + symbol))
}

// form returns the symbols of a text.
func form(text string) []int {
	var l []int
	for i := range len(text) {
		l = append(l, symbol(text[i]))
	}
	return l
}

// letters returns the text of symbols.
func letters(symbols []int) string {
	s := ""
	for _, x := range symbols {
		s += letter(x)
	}
	return s
}

// plain returns the look of a string of terminals.
func plain(word string) api.Look {
	x := api.Look{N: len(word)}
	copy(x.S[:], form(word))
	return x
}

// rules returns a grammar with so much lookahead, so many terminals, and these rules, as S=aSb|T T=b, one for each nonterminal, in order.
func rules(k, terms int, text string) api.Grammar {
	g := api.Grammar{K: k, Sep: "z", Start: 16}
	for i := range terms {
		g.Tokens = append(g.Tokens, letter(i))
	}
	for _, rule := range strings.Fields(text) {
		g.Names = append(g.Names, rule[:1])
		for _, right := range strings.Split(rule[2:], "|") {
			g.Prods = append(g.Prods, api.Prod{Left: symbol(rule[0]), Right: form(right)})
		}
	}
	if e := grammar.Check(g); e != api.OK {
		panic(text + ": " + e.Error())
	}
	return g
}

// example returns the grammar of the examples of layer 9.
func example() api.Grammar { return rules(2, 2, "S=aT| T=bS") }

// written writes a grammar as its lookahead, its start, and its productions.
func written(g api.Grammar) string {
	s := []string{"K", strconv.Itoa(g.K), "terminals", strconv.Itoa(len(g.Tokens)), "start", strconv.Itoa(g.Start)}
	for _, p := range g.Prods {
		s = append(s, letter(p.Left)+"="+letters(p.Right))
	}
	return strings.Join(s, " ")
}

// shown writes a verdict.
func shown(v api.Verdict) string {
	n := func(l ...int) string {
		s := ""
		for _, x := range l {
			s += " " + strconv.Itoa(x)
		}
		return s
	}
	return v.Fault.Err.Error() + n(v.Fault.At, v.Nonterm) + " conflict" + n(v.Conflict.Nonterm, v.Conflict.P, v.Conflict.Q, v.Conflict.Look.N) + n(v.Conflict.Look.S[:]...)
}

// clone returns a grammar that is equal to g, in memory of its own.
func clone(g api.Grammar) api.Grammar {
	h := g
	h.Tokens, h.Names, h.Prods = slices.Clone(g.Tokens), slices.Clone(g.Names), slices.Clone(g.Prods)
	for i := range h.Prods {
		h.Prods[i].Right = slices.Clone(g.Prods[i].Right)
	}
	return h
}

// copied returns a compiled grammar that is equal to c, in memory of its own.
func copied(c api.Compiled) api.Compiled {
	d := api.Compiled{Grammar: clone(c.Grammar), Canon: c.Canon}
	for _, x := range c.Tries {
		d.Tries = append(d.Tries, api.Trie{Nodes: slices.Clone(x.Nodes)})
	}
	return d
}

// isSame reports whether two compiled grammars are equal.
func isSame(a, b api.Compiled) bool {
	sameTries := slices.EqualFunc(a.Tries, b.Tries, func(x, y api.Trie) bool { return slices.Equal(x.Nodes, y.Nodes) })
	return a.Canon == b.Canon && sameTries && isEqual(a.Grammar, b.Grammar)
}

// isEqual reports whether two grammars are equal.
func isEqual(a, b api.Grammar) bool {
	sameProds := slices.EqualFunc(a.Prods, b.Prods, func(p, q api.Prod) bool { return p.Left == q.Left && slices.Equal(p.Right, q.Right) })
	return a.K == b.K && a.Sep == b.Sep && a.Start == b.Start && slices.Equal(a.Tokens, b.Tokens) && slices.Equal(a.Names, b.Names) && sameProds
}

// refused returns the verdict with an error because of a nonterminal.
func refused(err api.Errno, nonterm int) api.Verdict {
	return api.Verdict{Fault: api.Fault{Err: err}, Nonterm: nonterm}
}

// clash returns the verdict with a conflict.
func clash(nonterm, p, q int, word string) api.Verdict {
	v := refused(api.ErrConflict, nonterm)
	v.Conflict = api.Conflict{Nonterm: nonterm, P: p, Q: q, Look: plain(word)}
	return v
}

// text returns the text of g.
func text(g api.Grammar) string {
	s := "lookahead " + strconv.Itoa(g.K) + "; token " + strings.Join(g.Tokens, ", ") + "; separator " + g.Sep + "; start " + g.Names[g.Start-16] + ";"
	for i, name := range g.Names {
		var alts []string
		for _, p := range g.Prods {
			if p.Left != 16+i {
				continue
			}
			alt := ""
			for _, x := range p.Right {
				if x >= 16 {
					alt += " " + g.Names[x-16]
				} else {
					alt += " " + g.Tokens[x]
				}
			}
			alts = append(alts, alt)
		}
		s += " " + name + " =" + strings.Join(alts, " |") + " ;"
	}
	return s
}

// anyForm returns at most most symbols of g; the greater dull is, from 0 to 4, the more of them are terminals.
func anyForm(r *rand.Rand, g api.Grammar, dull, most int) []int {
	var l []int
	for range r.Intn(most + 1) {
		x := 16 + r.Intn(len(g.Names))
		if r.Intn(4) < dull {
			x = r.Intn(len(g.Tokens))
		}
		l = append(l, x)
	}
	return l
}

// random returns a valid grammar at random with that many terminals and nonterminals, at most prods productions, and at most right symbols on a right side.
func random(r *rand.Rand, k, terms, nonterms, prods, right int) api.Grammar {
	g := api.Grammar{K: k, Sep: "z", Start: 16 + r.Intn(nonterms)}
	for i := range terms {
		g.Tokens = append(g.Tokens, letter(i))
	}
	var lefts []int
	for i := range nonterms {
		g.Names = append(g.Names, letter(16+i))
		lefts = append(lefts, 16+i)
	}
	for range r.Intn(prods - nonterms + 1) {
		lefts = append(lefts, 16+r.Intn(nonterms))
	}
	slices.Sort(lefts)
	dull := 1 + r.Intn(3)
	for _, left := range lefts {
		g.Prods = append(g.Prods, api.Prod{Left: left, Right: anyForm(r, g, dull, right)})
	}
	return g
}

// sound are grammars that are accepted, the last ones not with a lesser lookahead.
func sound() []api.Grammar {
	return []api.Grammar{
		example(), rules(1, 2, "S=aSb|"), rules(1, 1, "S=aS|"), rules(1, 1, "S="), rules(1, 2, "S=aSSb|b"), rules(1, 3, "S=TUV T=a| U=b| V=c|"),
		rules(1, 5, "S=UT T=aUT| U=WV V=bWV| W=cSd|e"), rules(1, 2, "S=TTTa|b T=UU U="), rules(1, 8, "S=aT|bU|cV|d T=eS U=fS|g V=hT|a"),
		rules(2, 2, "S=a|ab"), rules(2, 3, "S=TS| T=aU|ac U=b|"), rules(3, 2, "S=aaS|aa|b"), rules(3, 3, "S=TUab T=ab| U=cU|"),
		rules(4, 3, "S=TT T=bbbU|bbba U=cT|"), rules(4, 2, "S=aaaS|aaab"),
	}
}

// wanted is a grammar with its sets, for the second way.
type wanted struct {
	g               api.Grammar
	firsts, follows map[int]words
	preds           []words
}

// want returns g with its sets: whole sets of words are joined, again and again, until none of them grows.
func want(g api.Grammar) wanted {
	w := wanted{g, map[int]words{}, map[int]words{}, nil}
	for symbol := range 24 {
		w.firsts[symbol], w.follows[symbol] = words{}, words{}
	}
	for symbol := range g.Tokens {
		w.firsts[symbol][letter(symbol)] = true
	}
	untilNothingGrows(w.firsts, func() {
		for _, p := range g.Prods {
			maps.Copy(w.firsts[p.Left], w.first(p.Right))
		}
	})
	w.follows[g.Start][""] = true
	untilNothingGrows(w.follows, func() {
		for _, p := range g.Prods {
			for dot, symbol := range p.Right {
				maps.Copy(w.follows[symbol], joined(g.K, w.first(p.Right[dot+1:]), w.follows[p.Left]))
			}
		}
	})
	for _, p := range g.Prods {
		w.preds = append(w.preds, joined(g.K, w.first(p.Right), w.follows[p.Left]))
	}
	return w
}

// untilNothingGrows calls round again and again until no set of m has more words behind a call than before it.
func untilNothingGrows(m map[int]words, round func()) {
	size := func() int {
		n := 0
		for _, w := range m {
			n += len(w)
		}
		return n
	}
	for before := -1; size() > before; {
		before = size()
		round()
	}
}

// joined returns the first k terminals of x and then y, for all x of a, none of them longer than k, and y of b.
func joined(k int, a, b words) words {
	all, cuts := words{}, map[int]words{}
	for x := range a {
		rest := k - len(x)
		if cuts[rest] == nil {
			cuts[rest] = words{}
			for y := range b {
				cuts[rest][y[:min(rest, len(y))]] = true
			}
		}
		for y := range cuts[rest] {
			all[x+y] = true
		}
	}
	return all
}

// first returns FIRST_k of a list of symbols.
func (w wanted) first(symbols []int) words {
	all := words{"": true}
	for _, symbol := range symbols {
		all = joined(w.g.K, all, w.firsts[symbol])
	}
	return all
}

// size returns the first nonterminal because of which there are too many looks, or 0.
func (w wanted) size() int {
	for _, sets := range []map[int]words{w.firsts, w.follows} {
		for i := range w.g.Names {
			if len(sets[16+i]) > 600 {
				return 16 + i
			}
		}
	}
	for p, pred := range w.preds {
		if len(pred) > 600 {
			return w.g.Prods[p].Left
		}
	}
	return 0
}

// conflict returns the verdict with the conflict, or the zero value.
func (w wanted) conflict() api.Verdict {
	for p := range w.g.Prods {
		for q := p + 1; q < len(w.g.Prods); q++ {
			if w.g.Prods[p].Left != w.g.Prods[q].Left {
				continue
			}
			var both []string
			for word := range w.preds[p] {
				if w.preds[q][word] {
					both = append(both, word)
				}
			}
			if len(both) > 0 {
				return clash(w.g.Prods[p].Left, p, q, slices.Min(both))
			}
		}
	}
	return api.Verdict{}
}

// tries returns the tries, which have a node for each beginning of a word of a PRED; the end is written as z.
func (w wanted) tries() []api.Trie {
	var l []api.Trie
	for i := range w.g.Names {
		x, nodes := api.Trie{Nodes: []api.TrieNode{{Prod: -1}}}, map[string]int{"": 0}
		for p, pred := range w.preds {
			if w.g.Prods[p].Left != 16+i {
				continue
			}
			for _, word := range slices.Sorted(maps.Keys(pred)) {
				if len(word) < w.g.K {
					word += "z"
				}
				for n := range len(word) {
					if _, is := nodes[word[:n+1]]; !is {
						nodes[word[:n+1]] = len(x.Nodes)
						x.Nodes = append(x.Nodes, api.TrieNode{Prod: -1})
						x.Nodes[nodes[word[:n]]].Next[min(8, int(word[n]-'a'))] = nodes[word[:n+1]]
					}
				}
				x.Nodes[nodes[word]].Prod = p
			}
		}
		l = append(l, x)
	}
	return l
}

// grown returns the symbols that are found by find, which is given those that were found before and a production, until it finds nothing more.
func grown(g api.Grammar, begin []int, find func(is map[int]bool, p api.Prod) []int) map[int]bool {
	is := map[int]bool{}
	for _, x := range begin {
		is[x] = true
	}
	for before := -1; len(is) > before; {
		before = len(is)
		for _, p := range g.Prods {
			for _, x := range find(is, p) {
				is[x] = true
			}
		}
	}
	return is
}

// deriving returns the symbols that derive a string of such terminals.
func deriving(g api.Grammar, terms []int) map[int]bool {
	return grown(g, terms, func(is map[int]bool, p api.Prod) []int {
		if slices.ContainsFunc(p.Right, func(x int) bool { return !is[x] }) {
			return nil
		}
		return []int{p.Left}
	})
}

// reached returns the symbols that occur in what is derived from some symbols.
func reached(g api.Grammar, from []int, right func(p api.Prod) []int) map[int]bool {
	return grown(g, from, func(is map[int]bool, p api.Prod) []int {
		if !is[p.Left] {
			return nil
		}
		return right(p)
	})
}

// isLeft reports whether a nonterminal is left recursive.
func isLeft(g api.Grammar, nonterm int) bool {
	nullable := deriving(g, nil)
	begin := func(p api.Prod) []int {
		for i, x := range p.Right {
			if !nullable[x] {
				return p.Right[:i+1]
			}
		}
		return p.Right
	}
	for _, p := range g.Prods {
		if p.Left == nonterm && reached(g, begin(p), begin)[nonterm] {
			return true
		}
	}
	return false
}

// emptySizes returns the least numbers of nodes of trees of the empty string, height by height.
func emptySizes(g api.Grammar) map[int]int {
	sizes := map[int]int{}
	for range 9 {
		next := map[int]int{}
		for _, p := range g.Prods {
			sum := 1
			for _, x := range p.Right {
				if sizes[x] == 0 {
					sum = 0
					break
				}
				sum += sizes[x]
			}
			if sum > 0 && (next[p.Left] == 0 || sum < next[p.Left]) {
				next[p.Left] = sum
			}
		}
		sizes = next
	}
	return sizes
}

// verdict is what is to be said about the grammar, which is valid.
func (w wanted) verdict() api.Verdict {
	first := func(err api.Errno, is func(nonterm int) bool) api.Verdict {
		for i := range w.g.Names {
			if is(16 + i) {
				return refused(err, 16+i)
			}
		}
		return api.Verdict{}
	}
	yields := deriving(w.g, []int{0, 1, 2, 3, 4, 5, 6, 7})
	reaches := reached(w.g, []int{w.g.Start}, func(p api.Prod) []int { return p.Right })
	sizes := emptySizes(w.g)
	for _, v := range []api.Verdict{
		first(api.ErrYield, func(nonterm int) bool { return !yields[nonterm] }),
		first(api.ErrReach, func(nonterm int) bool { return !reaches[nonterm] }),
		first(api.ErrLeft, func(nonterm int) bool { return isLeft(w.g, nonterm) }),
		first(api.ErrStrings, func(nonterm int) bool { return nonterm == w.size() }),
		w.conflict(),
		first(api.ErrEmpty, func(nonterm int) bool { return sizes[nonterm] > 64 }),
	} {
		if v != (api.Verdict{}) {
			return v
		}
	}
	return api.Verdict{}
}

// compiled is what the grammar is to be compiled to, if it is accepted.
func (w wanted) compiled() api.Compiled {
	s, _ := canon.Bytes(w.g)
	return api.Compiled{Grammar: w.g, Tries: w.tries(), Canon: s}
}

// isGrammar demands what Grammar returns, and what the others say of it.
func isGrammar(t *testing.T, g api.Grammar, want api.Compiled, verdict api.Verdict) {
	t.Helper()
	c, v := open.Grammar(g)
	if v != verdict || !isSame(c, want) {
		t.Fatalf("%s: %s, %v, not %s", written(g), shown(v), c.Tries, shown(verdict))
	}
	isCheck(t, c, map[bool]api.Errno{false: api.ErrForm}[v == api.Verdict{}])
}

// isText demands what Text and Accepts return.
func isText(t *testing.T, s string, want api.Compiled, verdict api.Verdict) {
	t.Helper()
	c, v := open.Text(s)
	if v != verdict || !isSame(c, want) || open.Accepts(s) != (verdict == api.Verdict{}) {
		t.Fatalf("%q: %s, %v, %v, not %s", s, shown(v), c.Tries, open.Accepts(s), shown(verdict))
	}
}

// isCheck demands what Check returns.
func isCheck(t *testing.T, c api.Compiled, err api.Errno) {
	t.Helper()
	if e := open.Check(c); e != err {
		t.Fatalf("Check(%s, %v, %q): %v, not %v", written(c.Grammar), c.Tries, c.Canon, e, err)
	}
}

// isSays demands what Says returns.
func isSays(t *testing.T, v api.Verdict, g api.Grammar, want string, err api.Errno) {
	t.Helper()
	if s, e := open.Says(v, g); s != want || e != err {
		t.Fatalf("Says(%s, %s): %q %v, not %q %v", shown(v), written(g), s, e, want, err)
	}
}

// isWanted demands that all functions return for g what the second way says, and returns the error.
func isWanted(t *testing.T, g api.Grammar) api.Errno {
	t.Helper()
	w := want(g)
	v, c := w.verdict(), api.Compiled{}
	if v == (api.Verdict{}) {
		c = w.compiled()
	}
	isGrammar(t, g, c, v)
	isText(t, text(g), c, v)
	return v.Fault.Err
}

// isVerdict demands the verdict about g, which is the second way's, too.
func isVerdict(t *testing.T, g api.Grammar, v api.Verdict) {
	t.Helper()
	if x := want(g).verdict(); x != v {
		t.Fatalf("%s: the second way says %s, not %s", written(g), shown(x), shown(v))
	}
	isWanted(t, g)
}

// The Examples of the chapter.
func TestExamples(t *testing.T) {
	c, v := open.Grammar(example())
	if v.Fault.Err != api.OK || len(c.Tries) != 2 {
		t.Errorf("%s, %v", shown(v), c)
	}
	second := rules(1, 2, "S=a|ab")
	isVerdict(t, example(), api.Verdict{})
	isVerdict(t, second, clash(16, 0, 1, "a"))
	isVerdict(t, rules(1, 2, "S=a T=b"), refused(api.ErrReach, 17))
	isVerdict(t, rules(1, 1, "S=aS"), refused(api.ErrYield, 16))
	isVerdict(t, rules(1, 2, "S=Sa|b"), refused(api.ErrLeft, 16))
	g := example()
	g.K = 0
	isGrammar(t, g, api.Compiled{}, refused(api.ErrRange, 0))
	isText(t, "", api.Compiled{}, refused(api.ErrShort, 0))
	isSays(t, clash(16, 0, 1, "a"), second, "conflict S 0 1 0", api.OK)
	isSays(t, api.Verdict{}, second, "accepted", api.OK)
}

// P21.1: an accepted grammar with its tries, node by node, and its canonical form.
func TestCompiled(t *testing.T) {
	none := api.TrieNode{Prod: -1}
	leaf := func(p int) api.TrieNode { return api.TrieNode{Prod: p} }
	to := func(places ...int) api.TrieNode {
		x := none
		for i := 0; i < len(places); i += 2 {
			x.Next[places[i]] = places[i+1]
		}
		return x
	}
	isGrammar(t, example(), api.Compiled{
		Grammar: example(),
		Tries: []api.Trie{
			{Nodes: []api.TrieNode{to(0, 1, 8, 3), to(1, 2), leaf(0), leaf(1)}},
			{Nodes: []api.TrieNode{to(1, 1), to(8, 2, 0, 3), leaf(2), leaf(2)}},
		},
		Canon: "\x02\x02\x01a\x01b\x01z\x02\x01S\x01T\x00\x03\x00\x02\x00\x09\x00\x00\x01\x02\x01\x08",
	}, api.Verdict{})
	for _, g := range sound() {
		isVerdict(t, g, api.Verdict{})
	}
}

// P21.1, P21.2: a verdict of each kind, because of each nonterminal.
func TestVerdicts(t *testing.T) {
	for _, c := range []struct {
		g api.Grammar
		v api.Verdict
	}{
		{rules(1, 1, "S=aS"), refused(api.ErrYield, 16)},
		{rules(1, 1, "S=a|T T=TT|aU U=T"), refused(api.ErrYield, 17)},
		{rules(1, 1, "S=|T T=| U=V V=U"), refused(api.ErrYield, 18)},
		{rules(1, 2, "S=a T=b|S U=Ta"), refused(api.ErrReach, 17)},
		{rules(1, 1, "S=aV T=S U=T V=a"), refused(api.ErrReach, 17)},
		{rules(1, 1, "S=S|a"), refused(api.ErrLeft, 16)},
		{rules(1, 1, "S=a|TUS T=| U="), refused(api.ErrLeft, 16)},
		{rules(1, 2, "S=aT T=Ub U=VT|a V=|b"), refused(api.ErrLeft, 17)},
		{rules(1, 2, "S=aU T=Tb| U=TU|"), refused(api.ErrLeft, 17)},
		{rules(4, 5, "S=TTTT T=a|b|c|d|e"), refused(api.ErrStrings, 16)},
		{rules(4, 5, "S=aT T=UUUU U=a|b|c|d|e"), refused(api.ErrStrings, 17)},
		{rules(4, 5, "S=aTUUUU T=a|b U=a|b|c|d|e"), refused(api.ErrStrings, 17)},
		{rules(4, 5, "S=aTUU T=UU U=a|b|c|d|e"), refused(api.ErrStrings, 17)},
		{rules(1, 1, "S=|"), clash(16, 0, 1, "")},
		{rules(1, 2, "S=a|b|a"), clash(16, 0, 2, "a")},
		{rules(1, 2, "S=a|b|b|a|b"), clash(16, 0, 3, "a")},
		{rules(1, 2, "S=aT|bU T=b|ab U=a|b|ba"), clash(18, 5, 6, "b")},
		{rules(2, 2, "S=aTab T=a|"), api.Verdict{}},
		{rules(1, 2, "S=aTab T=a|"), clash(17, 1, 2, "a")},
		{rules(4, 2, "S=aTaaab|bTaab T=|a"), clash(17, 2, 3, "aaab")},
		{rules(1, 1, "S=TTTT T=UUUU U=VVVV V="), refused(api.ErrEmpty, 16)},
		{rules(1, 2, "S=aT|b T=UUUU U=VVVV V=WWWW W="), refused(api.ErrEmpty, 17)},
	} {
		if x := want(c.g).verdict(); x.Fault.Err != c.v.Fault.Err || x.Nonterm != c.v.Nonterm {
			t.Errorf("%s: the second way says %s, not %s", written(c.g), shown(x), shown(c.v))
			continue
		}
		isVerdict(t, c.g, c.v)
	}
}

// part is a part of a grammar that has an error because of its nonterminal 1: what stands in an alternative of the start behind a terminal, if there is one, and the rules, in which 1 to 5 are nonterminals.
type part struct {
	err   api.Errno
	alt   string
	rules string
}

// parts are a part for each error, in their order, where the lookahead is 4.
func parts() []part {
	return []part{
		{api.ErrYield, "1", "1=a1"},
		{api.ErrReach, "", "1=a"},
		{api.ErrLeft, "1", "1=21b|c 2="},
		{api.ErrStrings, "1", "1=2222 2=a|b|c|d|e"},
		{api.ErrConflict, "1", "1=a|a"},
		{api.ErrEmpty, "1f", "1=222222 2=333333 3=444444 4="},
	}
}

// rulesOf returns how many rules x has.
func (x part) rulesOf() int { return strings.Count(x.rules, "=") }

// put returns a grammar of a start and some parts, and the nonterminal 1 of each of them. Its rules stand in a random order.
func put(r *rand.Rand, chosen []part) (api.Grammar, []int) {
	used := 1
	for _, x := range chosen {
		used += x.rulesOf()
	}
	free := []byte("STUVWXYZ"[:used])
	r.Shuffle(used, func(i, j int) { free[i], free[j] = free[j], free[i] })
	start, all, tops := string(free[0]), []string{}, []int{}
	alts := []string{"h"}
	free = free[1:]
	for _, x := range chosen {
		var names []string
		for i := range x.rulesOf() {
			names = append(names, strconv.Itoa(i+1), string(free[i]))
		}
		tops = append(tops, symbol(free[0]))
		free = free[x.rulesOf():]
		named := strings.NewReplacer(names...)
		all = append(all, strings.Fields(named.Replace(x.rules))...)
		if x.alt != "" {
			alts = append(alts, letter(len(alts)-1)+named.Replace(x.alt))
		}
	}
	r.Shuffle(len(alts), func(i, j int) { alts[i], alts[j] = alts[j], alts[i] })
	all = append(all, start+"="+strings.Join(alts, "|"))
	slices.Sort(all)
	g := rules(4, 8, strings.Join(all, " "))
	g.Start = symbol(start[0])
	return g, tops
}

// P21.1, R1: of several errors the first one is told, for all sets of errors that there are in a grammar with eight nonterminals.
func TestOrderOfErrors(t *testing.T) {
	r := rand.New(rand.NewSource(211))
	sets, pairs := 0, map[[2]api.Errno]bool{}
	for set := range 64 {
		var chosen []part
		size := 1
		for i, x := range parts() {
			if set>>i&1 == 1 {
				chosen = append(chosen, x)
				size += x.rulesOf()
			}
		}
		if size > 8 {
			continue
		}
		sets++
		for _, x := range chosen {
			pairs[[2]api.Errno{chosen[0].err, x.err}] = true
		}
		for range 5 {
			g, tops := put(r, chosen)
			v := want(g).verdict()
			if len(chosen) > 0 && (v.Fault.Err != chosen[0].err || v.Nonterm != tops[0]) || len(chosen) == 0 && v.Fault.Err != api.OK {
				t.Fatalf("%s: the second way says %s", written(g), shown(v))
			}
			isVerdict(t, g, v)
		}
	}
	if sets < 40 || len(pairs) != 6+5+4+3+2+1 {
		t.Errorf("%d sets of errors, %v", sets, pairs)
	}
}

// P21.1, P21.6: of several nonterminals with one error the first one is told.
func TestFirstNonterminals(t *testing.T) {
	r := rand.New(rand.NewSource(212))
	all := parts()
	all[2].rules = "1=1b|c"
	fine := part{api.OK, "1", "1=a"}
	for _, x := range all[:5] {
		places := map[int]int{}
		for range 20 {
			g, tops := put(r, []part{x, x, fine, fine, fine})
			tops = tops[:2]
			isVerdict(t, g, want(g).verdict())
			_, v := open.Grammar(g)
			if v.Fault.Err != x.err || v.Nonterm != slices.Min(tops) {
				t.Fatalf("%s: %s", written(g), shown(v))
			}
			places[v.Nonterm]++
		}
		if len(places) < 3 {
			t.Errorf("%v: the grammars are too much alike: %v", x.err, places)
		}
	}
	// 1 and 2 have too great trees, 3 has not.
	places := map[int]int{}
	for range 20 {
		g, _ := put(r, []part{{api.ErrEmpty, "1f", "1=2222 2=333333 3=444444 4=5 5="}})
		_, v := open.Grammar(g)
		isVerdict(t, g, refused(api.ErrEmpty, v.Nonterm))
		places[v.Nonterm]++
	}
	if len(places) < 4 {
		t.Errorf("the grammars are too much alike: %v", places)
	}
}

// P21.1: trees of the empty string may have 64 nodes, but not more.
func TestEmptyTrees(t *testing.T) {
	// The trees of U, V, W and X have 21, 10, 3 and 1 nodes.
	for right, nodes := range map[string]int{"UUVV": 63, "UUVWWW": 62, "UUU": 64, "UUVVX": 64, "UUUX": 65, "UUVVXX": 65, "UUUW": 67, "UUUU": 85} {
		g := rules(1, 3, "S=aTbT|c T="+right+" U=VV V=WWW W=XX X=")
		if n := emptySizes(g)[17]; n != nodes {
			t.Fatalf("%s: %d nodes", written(g), n)
		}
		if nodes <= 64 {
			isVerdict(t, g, api.Verdict{})
		} else {
			isVerdict(t, g, refused(api.ErrEmpty, 17))
		}
	}
	isVerdict(t, rules(1, 1, "S=TTTTTT T=UUUUUU U=VVVVVV V=WWWWWW W=XXXXXX X=YYYYYY Y=ZZZZZZ Z="), refused(api.ErrEmpty, 16))
	g := rules(4, 1, "S= T=SSSSSS U=TTTTTT V=UUUUUU W=VVVVVV X=WWWWWW Y=XXXXXX Z=aYYYYY")
	g.Start = 23
	isVerdict(t, g, refused(api.ErrEmpty, 19))
}

// P21.1: 600 looks are not too many, 601 are, as FIRST_k, as FOLLOW_k and as PRED.
func TestManyLooks(t *testing.T) {
	rest := " U=a|b|c|d|e V=a|b|c|d W=a|b|c|d|e|f"
	isVerdict(t, rules(4, 8, "S=hT T=UUVW"+rest), api.Verdict{})
	isVerdict(t, rules(4, 8, "S=hT T=UUVW|"+rest), refused(api.ErrStrings, 17))
	isVerdict(t, rules(4, 8, "S=hTUUVW T=g|f"+rest), api.Verdict{})
	isVerdict(t, rules(4, 8, "S=hTUUVW|eT T=g|f"+rest), refused(api.ErrStrings, 17))
	isVerdict(t, rules(4, 8, "S=hTVW T=UU|hV"+rest), api.Verdict{})
	isVerdict(t, rules(4, 8, "S=hTVW|gT T=UU|hV"+rest), refused(api.ErrStrings, 17))
}

// counts demands that each of these errors was met so often.
func counts(t *testing.T, count map[api.Errno]int, least int, errs ...api.Errno) {
	t.Helper()
	for _, e := range errs {
		if count[e] < least {
			t.Errorf("the grammars are too much alike: %v %d times, %v", e, count[e], count)
		}
	}
}

// rights returns all right sides of at most most of these symbols.
func rights(symbols string, most int) []string {
	all, longest := []string{""}, []string{""}
	for range most {
		var longer []string
		for _, right := range longest {
			for _, x := range symbols {
				longer = append(longer, right+string(x))
			}
		}
		longest = longer
		all = append(all, longer...)
	}
	return all
}

// P21.1, P21.2, P21.5, P21.6: all grammars with a nonterminal, two terminals, and at most three productions of at most two symbols, held against the second way.
func TestAllGrammarsWithOneNonterminal(t *testing.T) {
	count := map[api.Errno]int{}
	all := rights("abS", 2)
	for _, p := range all {
		count[isWanted(t, rules(1, 2, "S="+p))]++
		for _, q := range all {
			count[isWanted(t, rules(1, 2, "S="+p+"|"+q))]++
			count[isWanted(t, rules(2, 2, "S="+p+"|"+q))]++
			for _, x := range all {
				count[isWanted(t, rules(1, 2, "S="+p+"|"+q+"|"+x))]++
			}
		}
	}
	counts(t, count, 10, api.OK, api.ErrYield, api.ErrLeft, api.ErrConflict)
}

// P21.1, P21.2, P21.5, P21.6: all grammars with two nonterminals, a terminal, and right sides of at most two symbols, held against the second way.
func TestAllGrammarsWithTwoNonterminals(t *testing.T) {
	count := map[api.Errno]int{}
	var alts []string
	for i, p := range rights("aST", 2) {
		alts = append(alts, p)
		for _, q := range rights("aST", 2)[i:] {
			alts = append(alts, p+"|"+q)
		}
	}
	for i, s := range alts {
		for j, x := range alts {
			g := rules(1, 1, "S="+s+" T="+x)
			g.K, g.Start = 1+j%2, 16+(i+j)%2
			count[isWanted(t, g)]++
		}
	}
	counts(t, count, 50, api.OK, api.ErrYield, api.ErrReach, api.ErrLeft, api.ErrConflict)
}

// tame turns some right sides of g into ones that begin with a terminal of their own, so that it is more often accepted.
func tame(r *rand.Rand, g api.Grammar) api.Grammar {
	at := map[int]int{}
	for i := range g.Prods {
		p := &g.Prods[i]
		if r.Intn(6) > 0 && at[p.Left] < len(g.Tokens) {
			p.Right = append([]int{at[p.Left]}, p.Right[:min(len(p.Right), 5)]...)
			at[p.Left]++
		}
	}
	return g
}

// P21.1, P21.2, P21.5, P21.6: grammars at random, held against the second way.
func TestGrammarsAtRandom(t *testing.T) {
	r := rand.New(rand.NewSource(213))
	count := map[api.Errno]int{}
	accepted := map[int]int{}
	for range 6000 {
		k, terms, nonterms := 1+r.Intn(4), 1+r.Intn(4), 1+r.Intn(5)
		g := random(r, k, terms, nonterms, nonterms*3, 1+r.Intn(4))
		if r.Intn(3) > 0 {
			g = tame(r, g)
		}
		e := isWanted(t, g)
		count[e]++
		if e == api.OK {
			accepted[k*10+nonterms]++
		}
	}
	counts(t, count, 100, api.OK, api.ErrYield, api.ErrReach, api.ErrLeft, api.ErrConflict)
	if len(accepted) < 18 {
		t.Errorf("the grammars are too much alike: %v", accepted)
	}
}

// P21.1, P21.5, P21.6: grammars at random in which there are many looks, or great trees, held against the second way.
func TestGreatGrammarsAtRandom(t *testing.T) {
	r := rand.New(rand.NewSource(214))
	count := map[api.Errno]int{}
	for range 60 {
		terms := 4 + r.Intn(4)
		g := api.Grammar{K: 4, Sep: "z", Start: 16, Tokens: []string{"a", "b", "c", "d", "e", "f", "g", "h"}[:terms], Names: []string{"S", "T", "U"}}
		g.Prods = append(g.Prods, api.Prod{Left: 16, Right: append([]int{0, 17}, anyOf(r, 3, 17, 18)...)}, api.Prod{Left: 16, Right: []int{1, 17}}, api.Prod{Left: 17, Right: anyOf(r, 1+r.Intn(3), 18)})
		for x := range terms {
			g.Prods = append(g.Prods, api.Prod{Left: 18, Right: []int{x}})
		}
		count[isWanted(t, g)]++
	}
	counts(t, count, 10, api.OK, api.ErrStrings)
	count = map[api.Errno]int{}
	for range 600 {
		g := api.Grammar{K: 1 + r.Intn(2), Sep: "z", Start: 16, Tokens: []string{"a", "b"}, Names: []string{"S", "T", "U", "V", "W"}}
		g.Prods = append(g.Prods, api.Prod{Left: 16, Right: append([]int{17, 18, 19}, anyOf(r, r.Intn(3), 0, 17, 18, 19, 20)...)})
		for left := 17; left <= 19; left++ {
			g.Prods = append(g.Prods, api.Prod{Left: left, Right: append([]int{left + 1}, anyOf(r, r.Intn(6), left+1, 20, left+1)...)})
		}
		g.Prods = append(g.Prods, api.Prod{Left: 20})
		count[isWanted(t, g)]++
	}
	counts(t, count, 50, api.OK, api.ErrEmpty)
}

// anyOf returns n of these symbols.
func anyOf(r *rand.Rand, n int, symbols ...int) []int {
	var l []int
	for range n {
		l = append(l, symbols[r.Intn(len(symbols))])
	}
	return l
}

// forms returns the forms that are derived from one in one step or more, as far as the forms between them have at most width symbols.
func forms(g api.Grammar, from string, width int) words {
	all, work := words{}, []string{from}
	for len(work) > 0 {
		now := work[0]
		work = work[1:]
		for i := range len(now) {
			for _, p := range g.Prods {
				next := now[:i] + letters(p.Right) + now[i+1:]
				if p.Left == symbol(now[i]) && len(next) <= width && !all[next] {
					all[next] = true
					work = append(work, next)
				}
			}
		}
	}
	return all
}

// P21.6: the nonterminal of a verdict is as its error says, and none before it is: by the forms that are derived.
func TestWhatVerdictsSay(t *testing.T) {
	says := map[api.Errno]func(g api.Grammar, nonterm int) bool{
		api.ErrYield: func(g api.Grammar, nonterm int) bool {
			for x := range forms(g, letter(nonterm), 4) {
				if x == strings.ToLower(x) {
					return false
				}
			}
			return true
		},
		api.ErrReach: func(g api.Grammar, nonterm int) bool {
			all := forms(g, letter(g.Start), 4)
			all[letter(g.Start)] = true
			for x := range all {
				if strings.Contains(x, letter(nonterm)) {
					return false
				}
			}
			return true
		},
		api.ErrLeft: func(g api.Grammar, nonterm int) bool {
			for x := range forms(g, letter(nonterm), 4) {
				if strings.HasPrefix(x, letter(nonterm)) {
					return true
				}
			}
			return false
		},
	}
	count := map[api.Errno]int{}
	r := rand.New(rand.NewSource(215))
	for range 1500 {
		g := random(r, 1+r.Intn(2), 2, 1+r.Intn(3), 6, 2)
		_, v := open.Grammar(g)
		count[v.Fault.Err]++
		for _, e := range refusals[:3] {
			first := 0
			for i := range g.Names {
				if says[e](g, 16+i) {
					first = 16 + i
					break
				}
			}
			if e == v.Fault.Err {
				if v.Nonterm != first {
					t.Fatalf("%s: %s, not %d", written(g), shown(v), first)
				}
				break
			}
			if first != 0 {
				t.Fatalf("%s: %s, but %d is %v", written(g), shown(v), first, e)
			}
		}
	}
	counts(t, count, 50, api.OK, api.ErrYield, api.ErrReach, api.ErrLeft, api.ErrConflict)
}

// P21.1, R1, R3: the errors of grammar.Check come first, and alone, whatever else is asked for.
func TestErrorsOfGrammars(t *testing.T) {
	for _, c := range []struct {
		change func(g *api.Grammar)
		err    api.Errno
	}{
		{func(g *api.Grammar) { g.K = 0 }, api.ErrRange},
		{func(g *api.Grammar) { g.K = 5 }, api.ErrRange},
		{func(g *api.Grammar) { *g = api.Grammar{} }, api.ErrRange},
		{func(g *api.Grammar) { g.Prods[0].Right = make([]int, 7) }, api.ErrFull},
		{func(g *api.Grammar) { g.Prods = slices.Repeat(g.Prods, 9) }, api.ErrFull},
		{func(g *api.Grammar) { g.Tokens = nil }, api.ErrShort},
		{func(g *api.Grammar) { g.Names = nil }, api.ErrShort},
		{func(g *api.Grammar) { g.Sep = "S" }, api.ErrName},
		{func(g *api.Grammar) { g.Tokens[1] = "a" }, api.ErrExists},
		{func(g *api.Grammar) { g.Start = 18 }, api.ErrSymbol},
		{func(g *api.Grammar) { g.Prods[0].Right[0] = 2 }, api.ErrSymbol},
		{func(g *api.Grammar) { g.Prods[0].Left = 99 }, api.ErrSymbol},
		{func(g *api.Grammar) { slices.Reverse(g.Prods) }, api.ErrOrder},
		{func(g *api.Grammar) { g.Prods = g.Prods[:2] }, api.ErrMissing},
	} {
		// One grammar is accepted but for the change, the other one is not.
		for _, g := range []api.Grammar{example(), rules(1, 2, "S=aS|Sa T=b")} {
			c.change(&g)
			if e := grammar.Check(g); e != c.err {
				t.Fatalf("%s: %v", written(g), e)
			}
			isGrammar(t, g, api.Compiled{}, refused(c.err, 0))
			whole, _ := open.Grammar(example())
			whole.Grammar = g
			isCheck(t, whole, api.ErrForm)
			for _, v := range []api.Verdict{{}, refused(api.ErrLeft, 16), refused(api.ErrLeft, 99), refused(api.ErrForm, 16), clash(16, 0, 1, "a")} {
				isSays(t, v, g, "", c.err)
			}
		}
	}
}

// P21.2, R3: a text that source.Parse refuses, with its fault alone.
func TestTextsThatAreNone(t *testing.T) {
	whole := text(example())
	n := len(whole)
	for s, f := range map[string]api.Fault{
		"":                                   {Err: api.ErrShort},
		"S":                                  {Err: api.ErrForm},
		whole[:n-1]:                          {Err: api.ErrShort, At: n - 1},
		whole + " $":                         {Err: api.ErrForm, At: n + 1},
		"lookahead 5" + whole[11:]:           {Err: api.ErrRange, At: 10},
		"lookahead 1; token A;":              {Err: api.ErrName, At: 19},
		"lookahead 1; token a, a;":           {Err: api.ErrExists, At: 22},
		whole + " U = V;":                    {Err: api.ErrMissing, At: n + 5},
		whole + " U = z;":                    {Err: api.ErrSymbol, At: n + 5},
		whole + " U = a b a b a b a;":        {Err: api.ErrFull, At: n + 17},
		whole + strings.Repeat(" U = a;", 2): {Err: api.ErrExists, At: n + 8},
	} {
		if _, own := source.Parse(s); own != f {
			t.Fatalf("%q: %v, not %v", s, own, f)
		}
		isText(t, s, api.Compiled{}, api.Verdict{Fault: f})
	}
	c := want(example()).compiled()
	isText(t, whole, c, api.Verdict{})
	isText(t, "# a remark\n"+whole+"\n# another one", c, api.Verdict{})
	// A text of 2,000 bytes is one, a text of 2,001 bytes is not.
	isText(t, whole+strings.Repeat(" ", 2000-n), c, api.Verdict{})
	long := whole + strings.Repeat(" ", 2001-n)
	_, f := source.Parse(long)
	if f.Err != api.ErrLong {
		t.Fatal(f)
	}
	isText(t, long, api.Compiled{}, api.Verdict{Fault: f})
}

// P21.2, P21.5: texts of grammars, in which a byte is another one, or is not there, or twice: those that source.Parse refuses have its fault, the others are held against the second way.
func TestChangedTexts(t *testing.T) {
	r := rand.New(rand.NewSource(216))
	count := map[api.Errno]int{}
	for range 4000 {
		s := text(sound()[r.Intn(len(sound()))])
		i := r.Intn(len(s))
		switch r.Intn(4) {
		case 0:
			s = s[:i] + s[i+1:]
		case 1:
			s = s[:i+1] + s[i:]
		default:
			l := "abcSTU|;,= 1234"
			s = s[:i] + l[r.Intn(len(l)):][:1] + s[i+1:]
		}
		src, f := source.Parse(s)
		if f != (api.Fault{}) {
			isText(t, s, api.Compiled{}, api.Verdict{Fault: f})
			count[api.ErrForm]++
			continue
		}
		g, _ := grammar.Of(src)
		w := want(g)
		v, c := w.verdict(), api.Compiled{}
		if v == (api.Verdict{}) {
			c = w.compiled()
		}
		isText(t, s, c, v)
		count[v.Fault.Err]++
	}
	counts(t, count, 50, api.OK, api.ErrForm, api.ErrConflict)
	counts(t, count, 5, api.ErrYield, api.ErrReach, api.ErrLeft)
}

// P21.3: a compiled grammar in which anything is another one is refused.
func TestChangedCompiledGrammars(t *testing.T) {
	for _, g := range sound() {
		c, _ := open.Grammar(g)
		isCheck(t, c, api.OK)
		isCheck(t, copied(c), api.OK)
		changed := func(change func(d *api.Compiled)) {
			t.Helper()
			d := copied(c)
			change(&d)
			isCheck(t, d, api.ErrForm)
		}
		changeGrammar(c, changed)
		changed(func(d *api.Compiled) { d.Canon += "\x00" })
		for i := range c.Canon {
			changed(func(d *api.Compiled) { d.Canon = c.Canon[:i] + string(c.Canon[i]^1) + c.Canon[i+1:] })
			changed(func(d *api.Compiled) { d.Canon = c.Canon[:i] })
			changed(func(d *api.Compiled) { d.Canon = c.Canon[:i] + c.Canon[i+1:] })
		}
		changed(func(d *api.Compiled) { d.Tries = nil })
		changed(func(d *api.Compiled) { d.Tries = append(d.Tries, api.Trie{}) })
		changed(func(d *api.Compiled) { d.Tries = append(d.Tries, d.Tries[0]) })
		for i := range c.Tries {
			changed(func(d *api.Compiled) { d.Tries = d.Tries[:i] })
			changed(func(d *api.Compiled) { d.Tries = slices.Delete(d.Tries, i, i+1) })
			changeTrie(i, len(c.Tries[i].Nodes), changed)
			for j := range i {
				changed(func(d *api.Compiled) { d.Tries[i], d.Tries[j] = d.Tries[j], d.Tries[i] })
			}
		}
	}
}

// changeGrammar makes each change of the grammar of c that changed is to look at.
func changeGrammar(c api.Compiled, changed func(change func(d *api.Compiled))) {
	changed(func(d *api.Compiled) { d.Grammar = api.Grammar{} })
	changed(func(d *api.Compiled) { d.Grammar.K++ })
	changed(func(d *api.Compiled) { d.Grammar.K-- })
	changed(func(d *api.Compiled) { d.Grammar.Sep = "y" })
	changed(func(d *api.Compiled) { d.Grammar.Start++ })
	changed(func(d *api.Compiled) { d.Grammar.Tokens[0] = "y" })
	changed(func(d *api.Compiled) { d.Grammar.Tokens = append(d.Grammar.Tokens, "y") })
	changed(func(d *api.Compiled) { d.Grammar.Names[0] = "A" })
	for i, p := range c.Grammar.Prods {
		changed(func(d *api.Compiled) { d.Grammar.Prods = slices.Delete(d.Grammar.Prods, i, i+1) })
		changed(func(d *api.Compiled) { d.Grammar.Prods[i].Left++ })
		for j := range p.Right {
			changed(func(d *api.Compiled) { d.Grammar.Prods[i].Right = slices.Delete(d.Grammar.Prods[i].Right, j, j+1) })
			changed(func(d *api.Compiled) { d.Grammar.Prods[i].Right[j]++ })
		}
	}
}

// changeTrie makes each change of the trie with the number i, which has so many nodes, that changed is to look at.
func changeTrie(i, nodes int, changed func(change func(d *api.Compiled))) {
	changed(func(d *api.Compiled) { d.Tries[i].Nodes = nil })
	changed(func(d *api.Compiled) { d.Tries[i].Nodes = append(d.Tries[i].Nodes, api.TrieNode{Prod: -1}) })
	for j := range nodes {
		changed(func(d *api.Compiled) { d.Tries[i].Nodes = d.Tries[i].Nodes[:j] })
		changed(func(d *api.Compiled) { d.Tries[i].Nodes[j].Prod++ })
		changed(func(d *api.Compiled) { d.Tries[i].Nodes[j].Prod-- })
		for place := range 9 {
			changed(func(d *api.Compiled) { d.Tries[i].Nodes[j].Next[place]++ })
		}
	}
}

// P21.3: each accepted grammar with the tries and the canonical form of each other one.
func TestMixedCompiledGrammars(t *testing.T) {
	var all []api.Compiled
	for _, g := range sound() {
		c, _ := open.Grammar(g)
		all = append(all, c)
	}
	// This one has the tries of the third one.
	other := rules(1, 1, "S=aS|")
	other.Sep = "y"
	c, _ := open.Grammar(other)
	all = append(all, c)
	met := 0
	for i, a := range all {
		for j, b := range all {
			for k, c := range all {
				same := i == k && isSame(api.Compiled{Tries: a.Tries}, api.Compiled{Tries: b.Tries})
				isCheck(t, api.Compiled{Grammar: a.Grammar, Tries: b.Tries, Canon: c.Canon}, map[bool]api.Errno{false: api.ErrForm}[same])
				if same && j != i {
					met++
				}
			}
		}
	}
	if met != 2 {
		t.Errorf("%d times a grammar has the tries of another one", met)
	}
}

// P21.3: a grammar that is not accepted has no compiled grammar, whatever tries and canonical form stand beside it.
func TestCheckOfRefusedGrammars(t *testing.T) {
	isCheck(t, api.Compiled{}, api.ErrForm)
	tried := 0
	for _, g := range []api.Grammar{
		rules(1, 1, "S=aS"), rules(1, 2, "S=a T=b"), rules(1, 2, "S=Sa|b"), rules(4, 5, "S=TTTT T=a|b|c|d|e"), rules(1, 2, "S=a|ab"),
		rules(1, 2, "S=aT|b T=UUUU U=VVVV V=WWWW W="), rules(1, 1, "S=TTTT T=UUUU U=VVVV V="), rules(1, 2, "S=a T=a|b"),
	} {
		if _, v := open.Grammar(g); v.Fault.Err == api.OK {
			t.Fatalf("%s is accepted", written(g))
		}
		s, _ := canon.Bytes(g)
		tries, e := trie.All(g)
		if e == api.OK {
			tried++
		}
		isCheck(t, api.Compiled{Grammar: g, Tries: tries, Canon: s}, api.ErrForm)
		isCheck(t, api.Compiled{Grammar: g, Tries: want(g).tries(), Canon: s}, api.ErrForm)
		isCheck(t, api.Compiled{Grammar: g, Canon: s}, api.ErrForm)
		isCheck(t, api.Compiled{Grammar: g}, api.ErrForm)
	}
	if tried < 2 {
		t.Errorf("%d grammars have tries", tried)
	}
}

// P21.4: what is said, for each error, each nonterminal, and each conflict.
func TestSays(t *testing.T) {
	g := rules(2, 2, "S=aT| T=bS U=b")
	g.Names = []string{"Start", "T", "Another"}
	isSays(t, api.Verdict{}, g, "accepted", api.OK)
	for i, name := range g.Names {
		for err, word := range map[api.Errno]string{api.ErrYield: "yield", api.ErrReach: "reach", api.ErrLeft: "left", api.ErrStrings: "strings", api.ErrEmpty: "empty"} {
			isSays(t, refused(err, 16+i), g, word+" "+name, api.OK)
			// The conflict counts for ErrConflict alone, and the offset for none.
			v := clash(16+i, 1, 2, "a")
			v.Fault = api.Fault{Err: err, At: -7}
			v.Conflict.Look = api.Look{N: 9}
			isSays(t, v, g, word+" "+name, api.OK)
		}
		for _, n := range append([]int{0, 1, 9, 10, 23}, strange...) {
			for _, m := range append([]int{0, 2, 24, 100}, strange...) {
				v := clash(16+i, n, m, "")
				said := "conflict " + name + " " + strconv.FormatInt(int64(n), 10) + " " + strconv.FormatInt(int64(m), 10) + " -"
				isSays(t, v, g, said, api.OK)
				// The nonterminal of the conflict does not count.
				v.Conflict.Nonterm, v.Fault.At = n, m
				isSays(t, v, g, said, api.OK)
			}
		}
		for word, said := range map[string]string{"": "-", "a": "0", "ab": "0 1", "bab": "1 0 1", "hgfe": "7 6 5 4", "aaaa": "0 0 0 0"} {
			isSays(t, clash(16+i, 3, 12, word), g, "conflict "+name+" 3 12 "+said, api.OK)
		}
	}
	// Nothing else counts where there is no error.
	v := clash(99, -1, 77, "a")
	v.Fault = api.Fault{At: 5}
	v.Conflict.Look = api.Look{N: -1, S: [4]int{8}}
	isSays(t, v, g, "accepted", api.OK)
	isSays(t, v, rules(1, 1, "S=aS"), "accepted", api.OK)
}

// P21.4, R1, R3, R5: the errors of Says, alone and two at a time.
func TestErrorsOfSays(t *testing.T) {
	g := example()
	looks := map[api.Look]api.Errno{
		{N: 5}: api.ErrForm, {N: -1}: api.ErrForm, {N: math.MinInt}: api.ErrForm, {N: math.MaxInt}: api.ErrForm, {N: 1, S: [4]int{0, 1}}: api.ErrForm,
		{N: 1, S: [4]int{8}}: api.ErrSymbol, {N: 2, S: [4]int{0, -1}}: api.ErrSymbol, {N: 4, S: [4]int{0, 0, 0, math.MaxInt}}: api.ErrSymbol,
	}
	var none []api.Errno
	for e := api.Errno(-3); e <= 40; e++ {
		if e != api.OK && !slices.Contains(refusals, e) {
			none = append(none, e)
		}
	}
	for _, n := range strange {
		none = append(none, api.Errno(n))
	}
	for _, e := range none {
		for _, nonterm := range []int{16, 17, 18, 0, -1} {
			isSays(t, refused(e, nonterm), g, "", api.ErrForm)
			v := clash(nonterm, 0, 1, "a")
			v.Fault.Err, v.Conflict.Look.S[0] = e, 8
			isSays(t, v, g, "", api.ErrForm)
		}
	}
	for _, e := range refusals {
		for _, n := range append([]int{0, 1, 15, 18, 19, 24}, strange...) {
			v := refused(e, n)
			isSays(t, v, g, "", api.ErrSymbol)
			for x := range looks {
				v.Conflict.Look = x
				isSays(t, v, g, "", api.ErrSymbol)
			}
		}
	}
	for x, err := range looks {
		v := clash(16, 0, 1, "a")
		v.Conflict.Look = x
		isSays(t, v, g, "", err)
	}
	// A look need not be right for the grammar.
	isSays(t, clash(17, 0, 0, "h"), rules(1, 1, "S=aT T="), "conflict T 0 0 7", api.OK)
}

// P21.4, P21.1: what is said about the verdicts that Grammar returns.
func TestSaysOfVerdicts(t *testing.T) {
	for _, c := range []struct {
		g    api.Grammar
		said string
	}{
		{example(), "accepted"}, {rules(1, 1, "S=|T T=aT"), "yield T"}, {rules(1, 1, "S= T=a"), "reach T"}, {rules(1, 1, "S=aU T=a U=UT|"), "left U"},
		{rules(1, 1, "S=aT T=U|a U=TU|"), "left T"}, {rules(4, 5, "S=aT T=UUUU U=a|b|c|d|e"), "strings T"},
		{rules(2, 2, "S=aT T=ab|a|ab"), "conflict T 1 3 0 1"}, {rules(1, 1, "S=aT T=|"), "conflict T 1 2 -"}, {rules(1, 2, "S=aT|b T=UUUU U=VVVV V=WWWW W="), "empty T"},
	} {
		_, v := open.Grammar(c.g)
		isSays(t, v, c.g, c.said, api.OK)
	}
}

// P21.5: which texts are accepted, by what the other functions say of the property and the limits.
func TestWhichTextsAreAccepted(t *testing.T) {
	r := rand.New(rand.NewSource(217))
	count := map[bool]int{}
	for range 2000 {
		nonterms := 1 + r.Intn(3)
		s := text(tame(r, random(r, 1+r.Intn(3), 1+r.Intn(3), nonterms, 3*nonterms, 3)))
		if r.Intn(8) == 0 {
			i := r.Intn(len(s))
			s = s[:i] + s[i+1:]
		}
		is := isAcceptable(s)
		if open.Accepts(s) != is {
			t.Fatalf("%q: %v", s, !is)
		}
		count[is]++
	}
	if count[true] < 200 || count[false] < 200 {
		t.Errorf("the texts are too much alike: %v", count)
	}
}

// isAcceptable reports whether s is the text of a grammar that is reduced, not left recursive and strong LL(k), and keeps within the limits.
func isAcceptable(s string) bool {
	src, f := source.Parse(s)
	if f.Err != api.OK {
		return false
	}
	g, _ := grammar.Of(src)
	_, reduced := reach.Reduced(g)
	recursive, _ := recur.Left(g)
	strong, few := predict.Strong(g)
	sizes, _ := reach.Trees(g)
	return reduced == api.OK && len(recursive) == 0 && strong && few == api.OK && slices.Max(sizes) <= 64
}

// anyGrammars are grammars of all kinds, accepted ones among them.
func anyGrammars(seed int64, many int) []api.Grammar {
	r := rand.New(rand.NewSource(seed))
	l := append(sound(), rules(1, 2, "S=a T=b"), rules(1, 1, "S=aS"), rules(1, 2, "S=Sa|b"), rules(1, 2, "S=a|ab"), rules(4, 5, "S=TTTT T=a|b|c|d|e"), rules(1, 2, "S=aT|b T=UUUU U=VVVV V=WWWW W="))
	for range many {
		nonterms := 1 + r.Intn(4)
		g := random(r, 1+r.Intn(3), 1+r.Intn(4), nonterms, 3*nonterms, 4)
		if r.Intn(3) > 0 {
			g = tame(r, g)
		}
		l = append(l, g)
	}
	return l
}

// P21.7: a grammar and its canonical form have the same verdict; a compiled grammar is compiled from its own text, and from its own grammar.
func TestCompiledFromItsOwnText(t *testing.T) {
	count := map[api.Errno]int{}
	for _, g := range anyGrammars(218, 1500) {
		c, v := open.Grammar(g)
		s, _ := canon.Bytes(g)
		h, f := canon.Parse(s)
		if f != (api.Fault{}) {
			t.Fatalf("%s: %v", written(g), f)
		}
		isGrammar(t, h, c, v)
		count[v.Fault.Err]++
		if v != (api.Verdict{}) {
			continue
		}
		own, e := grammar.Text(c.Grammar)
		if e != api.OK {
			t.Fatalf("%s: %v", written(g), e)
		}
		isText(t, own, c, v)
		isGrammar(t, c.Grammar, c, v)
		if s, f := canon.OfText(own); f != (api.Fault{}) || s != c.Canon {
			t.Fatalf("%s: %q, %v", written(g), s, f)
		}
	}
	counts(t, count, 50, api.OK, api.ErrYield, api.ErrReach, api.ErrLeft, api.ErrConflict)
}

// P21.8: a grammar has the same verdict and the same tries if its terminals, its separator, or its nonterminals are named otherwise.
func TestOtherNames(t *testing.T) {
	r := rand.New(rand.NewSource(219))
	count := map[api.Errno]int{}
	for _, g := range anyGrammars(220, 800) {
		c, v := open.Grammar(g)
		count[v.Fault.Err]++
		for i := range 3 {
			h := clone(g)
			small := []string{"x", "ab", "longest12345", "a1", "b2", "c", "token1", "h", "a"}
			capital := []string{"X", "Ab", "Longest12345", "A1", "B2", "S", "Token", "T"}
			r.Shuffle(len(small), func(i, j int) { small[i], small[j] = small[j], small[i] })
			r.Shuffle(len(capital), func(i, j int) { capital[i], capital[j] = capital[j], capital[i] })
			if i != 0 {
				copy(h.Tokens, small)
				h.Sep = small[8]
			}
			if i != 1 {
				copy(h.Names, capital)
			}
			want := api.Compiled{}
			if v == (api.Verdict{}) {
				s, e := canon.Bytes(h)
				want = api.Compiled{Grammar: h, Tries: c.Tries, Canon: s}
				if e != api.OK {
					t.Fatalf("%v: %v", h, e)
				}
			}
			isGrammar(t, h, want, v)
			isText(t, text(h), want, v)
		}
	}
	counts(t, count, 30, api.OK, api.ErrYield, api.ErrReach, api.ErrLeft, api.ErrConflict)
}

// P21.1, P1: grammars with as much of everything as there may be, one of them accepted; its text is longer than a text may be.
func TestGreatestGrammars(t *testing.T) {
	g := api.Grammar{K: 1, Sep: "separator123", Start: 16}
	for i := range 8 {
		g.Tokens = append(g.Tokens, "terminal123"+strconv.Itoa(i))
		g.Names = append(g.Names, "Nonterminal"+strconv.Itoa(i))
		for j := range 2 {
			right := []int{(i + j) % 8}
			for n := range 5 {
				right = append(right, 16+(i+j+n)%8)
			}
			g.Prods = append(g.Prods, api.Prod{Left: 16 + i, Right: right})
		}
		g.Prods = append(g.Prods, api.Prod{Left: 16 + i, Right: []int{(i + 2) % 8, 7, 6, 5, 4, 3}})
	}
	w := want(g)
	isGrammar(t, g, w.compiled(), api.Verdict{})
	long := text(g)
	_, f := source.Parse(long)
	if f.Err != api.ErrLong {
		t.Fatal(len(long), f)
	}
	isText(t, long, api.Compiled{}, api.Verdict{Fault: f})
	for k := 1; k <= 4; k++ {
		g := api.Grammar{K: k, Sep: "z", Start: 16}
		all := []int{16, 17, 18, 19, 20, 21, 22, 23}
		for i := range 8 {
			g.Tokens, g.Names = append(g.Tokens, letter(i)), append(g.Names, letter(16+i))
			for _, right := range [][]int{all[:6], all[2:], {i, 22, 23, 16, 17, 18}} {
				g.Prods = append(g.Prods, api.Prod{Left: 16 + i, Right: slices.Clone(right)})
			}
		}
		isGrammar(t, g, api.Compiled{}, refused(api.ErrYield, 16))
		for i := range 8 {
			g.Prods[3*i+1].Right = nil
		}
		isGrammar(t, g, api.Compiled{}, refused(api.ErrLeft, 16))
		// Each nonterminal derives all strings, in many ways.
		for i := range 8 {
			g.Prods[3*i].Right[0] = (i + 1) % 8
		}
		if k < 4 {
			isGrammar(t, g, api.Compiled{}, clash(16, 0, 1, letter(1)))
		} else {
			isGrammar(t, g, api.Compiled{}, refused(api.ErrStrings, 16))
		}
	}
}

// P21.1: the greatest sets of looks that an accepted grammar may have.
func TestGreatestSets(t *testing.T) {
	g := rules(4, 8, "S=TUVW|gS T=a|b|c|d|e U=a|b|c|d|e V=a|b|c|d W=a|b|c|d|e")
	isWanted(t, g)
	c, v := open.Grammar(rules(4, 6, "S=TTUV T=a|b|c|d|e U=a|b|c|d V=a|b|c|d|e|f"))
	if v != (api.Verdict{}) || len(c.Tries[0].Nodes) != 1+5+25+100+600 {
		t.Errorf("%s, %d nodes", shown(v), len(c.Tries[0].Nodes))
	}
}

// R4: arguments stay as they are, and so does the room behind their lists.
func TestArgumentsStay(t *testing.T) {
	for _, g := range anyGrammars(221, 100) {
		roomy := clone(g)
		roomy.Tokens = append(roomy.Tokens, "room")[:len(g.Tokens)]
		roomy.Names = append(roomy.Names, "Room")[:len(g.Names)]
		roomy.Prods = append(roomy.Prods, api.Prod{Left: 77})[:len(g.Prods)]
		for i, p := range roomy.Prods {
			roomy.Prods[i].Right = append(p.Right, 88)[:len(p.Right)]
		}
		c, v := open.Grammar(roomy)
		open.Says(v, roomy)
		d := copied(c)
		d.Grammar = roomy
		for i, x := range d.Tries {
			d.Tries[i].Nodes = append(x.Nodes, api.TrieNode{Prod: 99})[:len(x.Nodes)]
		}
		d.Tries = append(d.Tries, api.Trie{Nodes: make([]api.TrieNode, 3)})[:len(c.Tries)]
		isCheck(t, d, map[bool]api.Errno{false: api.ErrForm}[v == api.Verdict{}])
		stays := isEqual(roomy, g) && roomy.Tokens[:len(g.Tokens)+1][len(g.Tokens)] == "room" && roomy.Names[:len(g.Names)+1][len(g.Names)] == "Room" && roomy.Prods[:len(g.Prods)+1][len(g.Prods)].Left == 77
		for _, p := range roomy.Prods {
			stays = stays && p.Right[:len(p.Right)+1][len(p.Right)] == 88
		}
		for i, x := range c.Tries {
			stays = stays && slices.Equal(d.Tries[i].Nodes, x.Nodes) && d.Tries[i].Nodes[:len(x.Nodes)+1][len(x.Nodes)].Prod == 99
		}
		if !stays || len(d.Tries[:len(c.Tries)+1][len(c.Tries)].Nodes) != 3 {
			t.Fatalf("%s was changed: %s", written(g), written(roomy))
		}
	}
}

// spoil overwrites the elements of l and the room behind them.
func spoil[E any](l []E, with E) {
	l = l[:cap(l)]
	for i := range l {
		l[i] = with
	}
}

// R4: a compiled grammar shares no memory with the grammar that it is made of, or with another one.
func TestNothingIsShared(t *testing.T) {
	for _, g := range sound() {
		own, whole := want(g).compiled(), clone(g)
		c, _ := open.Grammar(whole)
		d, _ := open.Grammar(whole)
		for i := range whole.Prods {
			spoil(whole.Prods[i].Right, 99)
		}
		spoil(whole.Prods, api.Prod{Left: 99})
		spoil(whole.Tokens, "y")
		spoil(whole.Names, "Y")
		if !isSame(c, own) {
			t.Fatalf("%s keeps its argument", written(g))
		}
		for i := range c.Tries {
			spoil(c.Tries[i].Nodes, api.TrieNode{Prod: 99})
		}
		spoil(c.Tries, api.Trie{})
		for i := range c.Grammar.Prods {
			spoil(c.Grammar.Prods[i].Right, 99)
		}
		spoil(c.Grammar.Prods, api.Prod{Left: 99})
		spoil(c.Grammar.Tokens, "y")
		spoil(c.Grammar.Names, "Y")
		if !isSame(d, own) {
			t.Fatalf("%s shares its memory", written(g))
		}
		isText(t, text(g), own, api.Verdict{})
	}
}

// R4: no two lists of one compiled grammar share memory.
func TestListsAreNotShared(t *testing.T) {
	for _, g := range sound() {
		own := want(g).compiled()
		n := len(own.Grammar.Prods)
		for i := range n + len(own.Tries) + 2 {
			fromGrammar, _ := open.Grammar(g)
			fromText, _ := open.Text(text(g))
			for _, c := range []api.Compiled{fromGrammar, fromText} {
				d := copied(own)
				switch {
				case i < n:
					spoil(c.Grammar.Prods[i].Right, 99)
					spoil(d.Grammar.Prods[i].Right, 99)
				case i < n+len(own.Tries):
					spoil(c.Tries[i-n].Nodes, api.TrieNode{Prod: 99})
					spoil(d.Tries[i-n].Nodes, api.TrieNode{Prod: 99})
				case i == n+len(own.Tries):
					spoil(c.Grammar.Tokens, "y")
					spoil(d.Grammar.Tokens, "y")
				default:
					spoil(c.Grammar.Names, "Y")
					spoil(d.Grammar.Names, "Y")
				}
				if !isSame(c, d) {
					t.Fatalf("%s: the list %d shares its memory", written(g), i)
				}
			}
		}
	}
}

// R4: a nil list and an empty one are equal.
func TestNilAndEmpty(t *testing.T) {
	g := rules(1, 1, "S=aS|")
	c, _ := open.Grammar(g)
	for _, none := range [][]int{nil, {}} {
		h := clone(g)
		h.Prods[1].Right = none
		isGrammar(t, h, c, api.Verdict{})
		isCheck(t, api.Compiled{Grammar: h, Tries: c.Tries, Canon: c.Canon}, api.OK)
		isSays(t, refused(api.ErrLeft, 16), h, "left S", api.OK)
	}
	for _, none := range [][]string{nil, {}} {
		h := clone(g)
		h.Tokens = none
		isGrammar(t, h, api.Compiled{}, refused(api.ErrShort, 0))
	}
	for _, none := range [][]api.Trie{nil, {}} {
		isCheck(t, api.Compiled{Grammar: g, Tries: none, Canon: c.Canon}, api.ErrForm)
		isCheck(t, api.Compiled{Tries: none}, api.ErrForm)
	}
	for _, none := range [][]api.TrieNode{nil, {}} {
		isCheck(t, api.Compiled{Grammar: g, Tries: []api.Trie{{Nodes: none}}, Canon: c.Canon}, api.ErrForm)
	}
}

// R6: the same arguments lead to the same results each time.
func TestAgain(t *testing.T) {
	for range 10 {
		isVerdict(t, rules(2, 2, "S=aTab T=a|"), api.Verdict{})
		isVerdict(t, rules(1, 2, "S=aT|bU T=b|ab U=a|b|ba"), clash(18, 5, 6, "b"))
	}
}

// P1, R5: no argument is too great or too strange.
func TestAllArgumentsAreTaken(t *testing.T) {
	r := rand.New(rand.NewSource(222))
	count := map[api.Errno]int{}
	for range 3000 {
		pick := func() int { return append([]int{0, 1, 15, 16, 17, 24}, strange...)[r.Intn(6+len(strange))] }
		g := clone(sound()[r.Intn(len(sound()))])
		c, _ := open.Grammar(g)
		c = copied(c)
		i := r.Intn(len(g.Prods))
		switch r.Intn(7) {
		case 0:
			g.K = pick()
		case 1:
			g.Start = pick()
		case 2:
			g.Prods[i].Left = pick()
		case 3:
			g.Prods[i].Right = append(g.Prods[i].Right, pick())
		case 4:
			g.Tokens[0] = strings.Repeat("a", r.Intn(20))
		case 5:
			n := r.Intn(len(c.Tries))
			c.Tries[n].Nodes[r.Intn(len(c.Tries[n].Nodes))].Next[r.Intn(9)] = strange[r.Intn(len(strange))]
			isCheck(t, c, api.ErrForm)
		case 6:
			n := r.Intn(len(c.Tries))
			c.Tries[n].Nodes[r.Intn(len(c.Tries[n].Nodes))].Prod = strange[r.Intn(len(strange)-9)] - 1
			isCheck(t, c, api.ErrForm)
		}
		e := grammar.Check(g)
		count[e]++
		if e != api.OK {
			isGrammar(t, g, api.Compiled{}, refused(e, 0))
			isSays(t, refused(api.ErrLeft, pick()), g, "", e)
			c.Grammar = g
			isCheck(t, c, api.ErrForm)
			continue
		}
		isWanted(t, g)
	}
	counts(t, count, 50, api.OK, api.ErrRange, api.ErrSymbol, api.ErrName)
	for _, s := range []string{"\x00", "\xff\xfe", strings.Repeat("a", 1<<20), strings.Repeat("; ", 999), "lookahead 9223372036854775808;"} {
		_, f := source.Parse(s)
		isText(t, s, api.Compiled{}, api.Verdict{Fault: f})
	}
}
