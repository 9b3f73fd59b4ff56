package reach_test

import (
	"math"
	"math/rand"
	"slices"
	"strconv"
	"strings"
	"testing"

	"stenotype/api"
	"stenotype/grammar"
	"stenotype/reach"
	"stenotype/source"
)

// strange are numbers that no grammar has as symbols or nonterminals.
var strange = []int{math.MinInt, math.MinInt + 1, math.MinInt + 16, -17, -16, -1, 24, 25, 40, 1 << 32, 1<<32 + 16, math.MaxInt - 16, math.MaxInt}

// facts are what Yields, Reached, Nullable, Lengths, Trees and Reduced say of a grammar.
type facts struct {
	yields, reached, nullable []bool
	lengths, trees            []int
	n                         int
	err                       api.Errno
}

// same reports whether f and x are equal.
func (f facts) same(x facts) bool {
	return slices.Equal(f.yields, x.yields) && slices.Equal(f.reached, x.reached) && slices.Equal(f.nullable, x.nullable) && slices.Equal(f.lengths, x.lengths) && slices.Equal(f.trees, x.trees) && f.n == x.n && f.err == x.err
}

// read returns the grammar with the terminals a and b, the start A and these rules.
func read(t *testing.T, rules string) api.Grammar {
	t.Helper()
	x, f := source.Parse("lookahead 1; token a, b; separator s; start A; " + rules)
	g, e := grammar.Of(x)
	if f != (api.Fault{}) || e != api.OK {
		t.Fatalf("%s: %v, %v", rules, f, e)
	}
	return g
}

// The grammars of the examples.
func first(t *testing.T) api.Grammar  { return read(t, "A = a B; B = b | ; C = C a;") }
func second(t *testing.T) api.Grammar { return read(t, "A = B B; B = C C | a; C = ;") }
func third(t *testing.T) api.Grammar  { return read(t, "A = a; B = b; C = A;") }

// plain writes all that is in g, so that two grammars are equal exactly if the same is written for them.
func plain(g api.Grammar) string {
	l := []string{strconv.Itoa(g.K), strings.Join(g.Tokens, ","), g.Sep, strings.Join(g.Names, ","), strconv.Itoa(g.Start)}
	for _, prod := range g.Prods {
		l = append(l, strconv.Itoa(prod.Left)+":")
		for _, symbol := range prod.Right {
			l = append(l, strconv.Itoa(symbol))
		}
	}
	return strings.Join(l, " ")
}

// clone returns a grammar that is equal to g, in memory of its own.
func clone(g api.Grammar) api.Grammar {
	h := g
	h.Tokens, h.Names, h.Prods = slices.Clone(g.Tokens), slices.Clone(g.Names), slices.Clone(g.Prods)
	for i := range h.Prods {
		h.Prods[i].Right = slices.Clone(g.Prods[i].Right)
	}
	return h
}

// random returns a valid grammar at random with that many terminals and nonterminals, at most prods productions, and at most right symbols on a right side.
func random(r *rand.Rand, terms, nonterms, prods, right int) api.Grammar {
	g := api.Grammar{K: 1 + r.Intn(4), Sep: "z", Start: 16 + r.Intn(nonterms)}
	var lefts []int
	for i := range terms {
		g.Tokens = append(g.Tokens, "t"+strconv.Itoa(i))
	}
	for i := range nonterms {
		g.Names = append(g.Names, "N"+strconv.Itoa(i))
		lefts = append(lefts, 16+i)
	}
	for range r.Intn(prods - nonterms + 1) {
		lefts = append(lefts, 16+r.Intn(nonterms))
	}
	slices.Sort(lefts)
	// How many terminals there are differs from grammar to grammar: with few of them, few nonterminals yield.
	dull := r.Intn(4)
	for _, left := range lefts {
		prod := api.Prod{Left: left}
		for range r.Intn(right + 1) {
			if r.Intn(4) < dull {
				prod.Right = append(prod.Right, r.Intn(terms))
			} else {
				prod.Right = append(prod.Right, 16+r.Intn(nonterms))
			}
		}
		if len(prod.Right) == 0 && r.Intn(2) == 0 {
			prod.Right = []int{left}
		}
		g.Prods = append(g.Prods, prod)
	}
	return g
}

// grammars are valid grammars: those of the examples, great and small ones, and some at random.
func grammars(t *testing.T) []api.Grammar {
	l := []api.Grammar{first(t), second(t), third(t), read(t, "A = A;"), read(t, "A = ;"), read(t, "A = a;"), chain(0, true), chain(0, false), chain(6, true), chain(6, false), falling()}
	r := rand.New(rand.NewSource(10))
	for range 400 {
		nonterms := 1 + r.Intn(8)
		l = append(l, random(r, 1+r.Intn(8), nonterms, nonterms+r.Intn(25-nonterms), 1+r.Intn(6)))
	}
	return l
}

// chain returns the grammar in which each nonterminal but the last is replaced by six of the next one, and the last by so many terminals; with backward, the next one is the one before.
func chain(last int, backward bool) api.Grammar {
	g := api.Grammar{K: 1, Tokens: []string{"a"}, Sep: "z", Start: 16}
	for i := range 8 {
		g.Names = append(g.Names, "N"+strconv.Itoa(i))
		g.Prods = append(g.Prods, api.Prod{Left: 16 + i, Right: slices.Repeat([]int{16 + i + 1}, 6)})
	}
	g.Prods[7].Right = make([]int, last)
	if !backward {
		return g
	}
	g.Start = 23
	for i := range g.Prods {
		g.Prods[i].Right = slices.Repeat([]int{16 + i - 1}, 6)
	}
	g.Prods[0].Right = make([]int, last)
	return g
}

// falling returns a grammar in which the sum of each nonterminal is found to be great, and falls afterwards, one nonterminal in a round.
func falling() api.Grammar {
	g := api.Grammar{K: 1, Tokens: []string{"a"}, Sep: "z", Start: 16}
	for i := range 8 {
		g.Names = append(g.Names, "N"+strconv.Itoa(i))
		g.Prods = append(g.Prods, api.Prod{Left: 16 + i, Right: []int{0, 0, 0, 0, 0, 0}})
		if i < 7 {
			g.Prods = append(g.Prods, api.Prod{Left: 16 + i, Right: []int{16 + i + 1}})
		}
	}
	g.Prods = append(g.Prods, api.Prod{Left: 23, Right: []int{0}})
	return g
}

// tell returns what the functions without further arguments say of g, which is valid.
func tell(t *testing.T, g api.Grammar) facts {
	t.Helper()
	var f facts
	var e [5]api.Errno
	f.yields, e[0] = reach.Yields(g)
	f.reached, e[1] = reach.Reached(g)
	f.nullable, e[2] = reach.Nullable(g)
	f.lengths, e[3] = reach.Lengths(g)
	f.trees, e[4] = reach.Trees(g)
	f.n, f.err = reach.Reduced(g)
	if e != [5]api.Errno{} {
		t.Fatalf("%s: %v", plain(g), e)
	}
	return f
}

// isBelow demands that Below says this.
func isBelow(t *testing.T, g api.Grammar, n int, want []bool, err api.Errno) {
	t.Helper()
	if l, e := reach.Below(g, n); !slices.Equal(l, want) || e != err {
		t.Errorf("Below(%s, %d): %v, %v, not %v, %v", plain(g), n, l, e, want, err)
	}
}

// isEmpty demands that Empty says this.
func isEmpty(t *testing.T, g api.Grammar, right []int, want bool, err api.Errno) {
	t.Helper()
	if is, e := reach.Empty(g, right); is != want || e != err {
		t.Errorf("Empty(%s, %v): %v, %v, not %v, %v", plain(g), right, is, e, want, err)
	}
}

// seeker looks for the least trees that have no nonterminal below itself, as others are never less.
type seeker struct {
	g     api.Grammar
	node  int  // what a nonterminal counts
	terms bool // whether there are trees with terminals, which count 1
	known map[[2]int]int
}

// least returns the least sum of a tree of symbol in which the nonterminals of the set above do not occur, or -1 if there is none.
func (s seeker) least(symbol, above int) int {
	if symbol < 16 {
		if s.terms {
			return 1
		}
		return -1
	}
	bit := 1 << (symbol - 16)
	if above&bit != 0 {
		return -1
	}
	if n, found := s.known[[2]int{symbol, above}]; found {
		return n
	}
	best := -1
	for _, prod := range s.g.Prods {
		if prod.Left != symbol {
			continue
		}
		total := s.node
		for _, kid := range prod.Right {
			n := s.least(kid, above|bit)
			if n < 0 {
				total = -1
				break
			}
			total += n
		}
		if total >= 0 && (best < 0 || total < best) {
			best = total
		}
	}
	s.known[[2]int{symbol, above}] = best
	return best
}

// wantBelow returns which nonterminals are reached from the one with the number n: by paths over each nonterminal in turn.
func wantBelow(g api.Grammar, n int) []bool {
	var next [8][8]bool
	for i := range next {
		next[i][i] = true
	}
	for _, prod := range g.Prods {
		for _, symbol := range prod.Right {
			if symbol >= 16 {
				next[prod.Left-16][symbol-16] = true
			}
		}
	}
	for k := range next {
		for i := range next {
			for j := range next {
				next[i][j] = next[i][j] || next[i][k] && next[k][j]
			}
		}
	}
	return next[n][:len(g.Names)]
}

// want returns what is to be said of g, by the words of the terms.
func want(g api.Grammar) facts {
	f := facts{reached: wantBelow(g, g.Start-16)}
	lengths := seeker{g, 0, true, map[[2]int]int{}}
	trees := seeker{g, 1, false, map[[2]int]int{}}
	for i := range g.Names {
		length, tree := lengths.least(16+i, 0), trees.least(16+i, 0)
		f.yields, f.lengths = append(f.yields, length >= 0), append(f.lengths, length)
		f.nullable, f.trees = append(f.nullable, tree >= 0), append(f.trees, max(tree, 0))
	}
	for i := len(g.Names) - 1; i >= 0; i-- {
		if !f.reached[i] {
			f.n, f.err = i, api.ErrReach
		}
	}
	for i := len(g.Names) - 1; i >= 0; i-- {
		if !f.yields[i] {
			f.n, f.err = i, api.ErrYield
		}
	}
	return f
}

// The rows of the examples.
func TestExamples(t *testing.T) {
	all := []bool{true, true, true}
	for _, c := range []struct {
		g    api.Grammar
		want facts
	}{
		{first(t), facts{[]bool{true, true, false}, []bool{true, true, false}, []bool{false, true, false}, []int{1, 0, -1}, []int{0, 1, 0}, 2, api.ErrYield}},
		{second(t), facts{all, all, all, []int{0, 0, 0}, []int{7, 3, 1}, 0, api.OK}},
		{third(t), facts{all, []bool{true, false, false}, []bool{false, false, false}, []int{1, 1, 1}, []int{0, 0, 0}, 1, api.ErrReach}},
	} {
		if f := tell(t, c.g); !f.same(c.want) {
			t.Errorf("%s: %v, not %v", plain(c.g), f, c.want)
		}
	}
	isBelow(t, third(t), 2, []bool{true, false, true}, api.OK)
	isEmpty(t, second(t), []int{17, 18}, true, api.OK)
	isEmpty(t, second(t), []int{17, 0}, false, api.OK)
	isEmpty(t, second(t), nil, true, api.OK)
	isEmpty(t, second(t), []int{9}, false, api.ErrSymbol)
}

// P10.1, P10.2: all lists, and whether grammars are reduced, held against trees that are looked for one by one.
func TestFacts(t *testing.T) {
	count := map[api.Errno]int{}
	later := 0
	for _, g := range grammars(t) {
		if e := grammar.Check(g); e != api.OK {
			t.Fatalf("%s: %v", plain(g), e)
		}
		f, w := tell(t, g), want(g)
		if !f.same(w) {
			t.Errorf("%s: %v, not %v", plain(g), f, w)
		}
		count[f.err]++
		if f.n > 0 {
			later++
		}
	}
	if count[api.OK] < 50 || count[api.ErrYield] < 50 || count[api.ErrReach] < 50 || later < 50 {
		t.Errorf("the grammars are too much alike: %v, %d", count, later)
	}
}

// found is what derivations of a nonterminal lead to.
type found struct {
	forms  map[string]bool
	length int // that of the shortest string of terminals, -1 if there is none
	steps  int // to the empty string, 0 if it is not derived
}

// derive goes through all forms with at most width symbols that symbol derives, in the order of their steps.
func derive(g api.Grammar, symbol, width int) found {
	begin := string([]byte{byte(symbol)})
	f := found{map[string]bool{begin: true}, -1, 0}
	steps := 0
	for forms := []string{begin}; len(forms) > 0; steps++ {
		var next []string
		for _, form := range forms {
			if form == "" {
				f.steps = steps
			}
			if strings.IndexFunc(form, func(r rune) bool { return r >= 16 }) < 0 && (f.length < 0 || len(form) < f.length) {
				f.length = len(form)
			}
			for i := range len(form) {
				for _, prod := range g.Prods {
					if int(form[i]) != prod.Left || len(form)-1+len(prod.Right) > width {
						continue
					}
					var right []byte
					for _, symbol := range prod.Right {
						right = append(right, byte(symbol))
					}
					if s := form[:i] + string(right) + form[i+1:]; !f.forms[s] {
						f.forms[s] = true
						next = append(next, s)
					}
				}
			}
		}
		forms = next
	}
	return f
}

// P10.1, the terms: the same from derivations, for grammars so small that the forms of the least trees are narrow.
func TestDerivations(t *testing.T) {
	r := rand.New(rand.NewSource(101))
	for n := range 240 {
		// Trees with at most three nonterminals on a path and two symbols on a right side are at most eight wide; with two and three, nine.
		nonterms, right, width := 2, 3, 9
		if n%8 == 0 {
			nonterms, right, width = 3, 2, 8
		}
		g := random(r, 1, nonterms, 6, right)
		f := tell(t, g)
		for i := range g.Names {
			d := derive(g, 16+i, width)
			if f.yields[i] != (d.length >= 0) || f.lengths[i] != d.length || f.nullable[i] != d.forms[""] || f.trees[i] != d.steps {
				t.Errorf("%s: %v for %d, but %d, %d", plain(g), f, i, d.length, d.steps)
			}
			below, e := reach.Below(g, i)
			for j := range g.Names {
				occurs := false
				for form := range d.forms {
					occurs = occurs || strings.Contains(form, string([]byte{byte(16 + j)}))
				}
				if e != api.OK || below[j] != occurs || 16+i == g.Start && f.reached[j] != occurs {
					t.Errorf("%s: %v from %d, %v", plain(g), below, i, f.reached)
				}
			}
		}
	}
}

// P10.1: the greatest numbers that there are, in either direction, and sums that fall late.
func TestGreatSums(t *testing.T) {
	trees := []int{335923, 55987, 9331, 1555, 259, 43, 7, 1}
	lengths := []int{1679616, 279936, 46656, 7776, 1296, 216, 36, 6}
	all, none := slices.Repeat([]bool{true}, 8), make([]bool, 8)
	for _, backward := range []bool{false, true} {
		empty := facts{all, all, all, make([]int, 8), slices.Clone(trees), 0, api.OK}
		full := facts{all, all, none, slices.Clone(lengths), make([]int, 8), 0, api.OK}
		if backward {
			slices.Reverse(empty.trees)
			slices.Reverse(full.lengths)
		}
		if f := tell(t, chain(0, backward)); !f.same(empty) {
			t.Errorf("%v: %v", backward, f)
		}
		if f := tell(t, chain(6, backward)); !f.same(full) {
			t.Errorf("%v: %v", backward, f)
		}
	}
	if f := tell(t, falling()); !slices.Equal(f.lengths, slices.Repeat([]int{1}, 8)) {
		t.Errorf("%v", f)
	}
}

// P10.2: what does not yield is told first, and the first nonterminal of its kind.
func TestReduced(t *testing.T) {
	for _, c := range []struct {
		rules string
		n     int
		err   api.Errno
	}{
		{"A = a;", 0, api.OK},
		{"A = ;", 0, api.OK},
		{"A = A;", 0, api.ErrYield},
		{"A = a; B = B;", 1, api.ErrYield},
		{"A = a | B; B = B;", 1, api.ErrYield},
		{"A = a; B = b; C = C;", 2, api.ErrYield},
		{"A = a; B = B; C = b;", 1, api.ErrYield},
		{"A = B; B = B; C = C;", 0, api.ErrYield},
		{"A = a; B = b; C = c;", 1, api.ErrReach},
		{"A = a C; B = b A; C = B | c;", 0, api.OK},
		{"A = a C; B = b; C = c;", 1, api.ErrReach},
		{"A = a B; B = b; C = A B C | c;", 2, api.ErrReach},
	} {
		g := read(t, strings.ReplaceAll(c.rules, "c", "a b"))
		if n, e := reach.Reduced(g); n != c.n || e != c.err {
			t.Errorf("Reduced(%s): %d, %v", c.rules, n, e)
		}
	}
	g := third(t)
	g.Start = 18
	if n, e := reach.Reduced(g); n != 1 || e != api.ErrReach {
		t.Errorf("Reduced with another start: %d, %v", n, e)
	}
	g.Start = 17
	if n, e := reach.Reduced(g); n != 0 || e != api.ErrReach {
		t.Errorf("Reduced with another start: %d, %v", n, e)
	}
}

// P10.3: Empty takes symbols of the grammar alone, at each place.
func TestSymbolsOfEmpty(t *testing.T) {
	for _, g := range grammars(t)[:60] {
		symbols := slices.Clone(strange)
		for symbol := -20; symbol < 60; symbol++ {
			symbols = append(symbols, symbol)
		}
		nullable := want(g).nullable
		for _, symbol := range symbols {
			isTerm, isNonterm := symbol >= 0 && symbol < len(g.Tokens), symbol >= 16 && symbol < 16+len(g.Names)
			if isTerm || isNonterm {
				is := isNonterm && nullable[symbol-16]
				isEmpty(t, g, []int{symbol}, is, api.OK)
				isEmpty(t, g, []int{symbol, symbol}, is, api.OK)
				isEmpty(t, g, []int{symbol, 0}, false, api.OK)
				continue
			}
			for _, right := range [][]int{{symbol}, {symbol, 0}, {0, symbol}, {16, symbol, 16}, {16, 0, symbol}, {symbol, symbol}} {
				isEmpty(t, g, right, false, api.ErrSymbol)
			}
		}
	}
}

// P10.3: Empty of lists of symbols, which may be longer than right sides.
func TestEmpty(t *testing.T) {
	r := rand.New(rand.NewSource(103))
	count := map[bool]int{}
	for _, g := range grammars(t) {
		nullable := want(g).nullable
		for range 20 {
			var right []int
			all := true
			for range r.Intn(12) {
				symbol := 16 + r.Intn(len(g.Names))
				if r.Intn(12) == 0 {
					symbol = r.Intn(len(g.Tokens))
				}
				all = all && symbol >= 16 && nullable[symbol-16]
				right = append(right, symbol)
			}
			isEmpty(t, g, right, all, api.OK)
			count[all]++
		}
		isEmpty(t, g, nil, true, api.OK)
		isEmpty(t, g, []int{}, true, api.OK)
	}
	if count[true] < 1000 || count[false] < 1000 {
		t.Errorf("the lists are too much alike: %v", count)
	}
}

// P10.3: Below of each number.
func TestBelow(t *testing.T) {
	for _, g := range grammars(t) {
		for i := range g.Names {
			isBelow(t, g, i, wantBelow(g, i), api.OK)
		}
		for _, n := range slices.Concat(strange, []int{len(g.Names), len(g.Names) + 1, 8, 15, 16, 17, 23}) {
			isBelow(t, g, n, nil, api.ErrRange)
		}
	}
}

// alone demands that all functions return err for g, and nothing else, whatever they are asked for.
func alone(t *testing.T, g api.Grammar, err api.Errno) {
	t.Helper()
	yields, e := reach.Yields(g)
	reached, f := reach.Reached(g)
	nullable, h := reach.Nullable(g)
	lengths, i := reach.Lengths(g)
	trees, j := reach.Trees(g)
	if len(yields)+len(reached)+len(nullable)+len(lengths)+len(trees) != 0 || e != err || f != err || h != err || i != err || j != err {
		t.Errorf("%s: %v, %v, %v, %v, %v, not %v", plain(g), e, f, h, i, j, err)
	}
	if n, e := reach.Reduced(g); n != 0 || e != err {
		t.Errorf("Reduced(%s): %d, %v, not %v", plain(g), n, e, err)
	}
	for _, n := range []int{-1, 0, 1, 2, 3, 99, math.MinInt, math.MaxInt} {
		isBelow(t, g, n, nil, err)
		isEmpty(t, g, []int{n}, false, err)
	}
	for _, right := range [][]int{nil, {17, 18}, {16, 99}, {9}} {
		isEmpty(t, g, right, false, err)
	}
}

// P10.1, R1, R3: all functions return the error of grammar.Check first, and alone.
func TestErrorsOfCheck(t *testing.T) {
	for _, c := range []struct {
		change func(g *api.Grammar)
		err    api.Errno
	}{
		{func(g *api.Grammar) { g.K = 0 }, api.ErrRange},
		{func(g *api.Grammar) { g.K = 5 }, api.ErrRange},
		{func(g *api.Grammar) { g.Prods[0].Right = make([]int, 7) }, api.ErrFull},
		{func(g *api.Grammar) { g.Prods = slices.Repeat(g.Prods, 9) }, api.ErrFull},
		{func(g *api.Grammar) { g.Tokens = nil }, api.ErrShort},
		{func(g *api.Grammar) { g.Names = nil }, api.ErrShort},
		{func(g *api.Grammar) { *g = api.Grammar{K: 1} }, api.ErrShort},
		{func(g *api.Grammar) { *g = api.Grammar{} }, api.ErrRange},
		{func(g *api.Grammar) { g.Sep = "S" }, api.ErrName},
		{func(g *api.Grammar) { g.Names[2] = "c" }, api.ErrName},
		{func(g *api.Grammar) { g.Tokens[1] = "a" }, api.ErrExists},
		{func(g *api.Grammar) { g.Start = 19 }, api.ErrSymbol},
		{func(g *api.Grammar) { g.Start = 15 }, api.ErrSymbol},
		{func(g *api.Grammar) { g.Prods[0].Right[0] = 2 }, api.ErrSymbol},
		{func(g *api.Grammar) { g.Prods[0].Right[0] = -1 }, api.ErrSymbol},
		{func(g *api.Grammar) { g.Prods[0].Left = 99 }, api.ErrSymbol},
		{func(g *api.Grammar) { slices.Reverse(g.Prods) }, api.ErrOrder},
		{func(g *api.Grammar) { g.Prods = g.Prods[:2] }, api.ErrMissing},
		{func(g *api.Grammar) { g.Prods = nil }, api.ErrMissing},
	} {
		g := second(t)
		c.change(&g)
		if e := grammar.Check(g); e != c.err {
			t.Fatalf("%s: %v", plain(g), e)
		}
		alone(t, g, c.err)
	}
}

// P10.4: what yields, is nullable, and how long it is, by the productions.
func TestProductionsDecide(t *testing.T) {
	for _, g := range grammars(t) {
		f := tell(t, g)
		for i := range g.Names {
			yields, nullable, length := false, false, -1
			for _, prod := range g.Prods {
				if prod.Left != 16+i {
					continue
				}
				all, total := true, 0
				for _, symbol := range prod.Right {
					if symbol < 16 {
						total++
						continue
					}
					all = all && f.yields[symbol-16]
					total += f.lengths[symbol-16]
				}
				if is, e := reach.Empty(g, prod.Right); is && e == api.OK {
					nullable = true
				}
				if all && (length < 0 || total < length) {
					yields, length = true, total
				}
			}
			if f.yields[i] != yields || f.nullable[i] != nullable || f.lengths[i] != length {
				t.Errorf("%s: %v for %d", plain(g), f, i)
			}
		}
	}
}

// P10.5: nullable nonterminals yield, with the least length 0, and their trees are those of the best production.
func TestNullableOnesYield(t *testing.T) {
	for _, g := range grammars(t) {
		f := tell(t, g)
		for i := range g.Names {
			if f.nullable[i] != (f.lengths[i] == 0) || f.nullable[i] && !f.yields[i] || f.yields[i] == (f.lengths[i] < 0) {
				t.Errorf("%s: %v for %d", plain(g), f, i)
			}
			best := 0
			for _, prod := range g.Prods {
				if is, e := reach.Empty(g, prod.Right); prod.Left != 16+i || !is || e != api.OK {
					continue
				}
				total := 1
				for _, symbol := range prod.Right {
					total += f.trees[symbol-16]
				}
				if best == 0 || total < best {
					best = total
				}
			}
			if f.trees[i] != best {
				t.Errorf("%s: %v, not %d for %d", plain(g), f.trees, best, i)
			}
		}
	}
}

// P10.6: reached are those below the start, and below is transitive.
func TestBelowIsTransitive(t *testing.T) {
	for _, g := range grammars(t) {
		var below [][]bool
		for i := range g.Names {
			l, e := reach.Below(g, i)
			if e != api.OK || !l[i] {
				t.Errorf("Below(%s, %d): %v, %v", plain(g), i, l, e)
			}
			below = append(below, l)
		}
		if f := tell(t, g); !slices.Equal(f.reached, below[g.Start-16]) {
			t.Errorf("%s: %v", plain(g), f.reached)
		}
		for i := range below {
			for j := range below {
				for k := range below {
					if below[i][j] && below[j][k] && !below[i][k] {
						t.Errorf("%s: %d, %d, %d", plain(g), i, j, k)
					}
				}
			}
		}
	}
}

// P10.7: another production makes nothing untrue, and no number greater.
func TestMoreProductions(t *testing.T) {
	r := rand.New(rand.NewSource(107))
	more := 0
	for _, g := range grammars(t) {
		if len(g.Prods) == api.MaxProds {
			continue
		}
		h := clone(g)
		prod := api.Prod{Left: 16 + r.Intn(len(g.Names))}
		for range r.Intn(4) {
			prod.Right = append(prod.Right, 16+r.Intn(len(g.Names)))
		}
		at := 0
		for at < len(h.Prods) && h.Prods[at].Left < prod.Left {
			at++
		}
		h.Prods = slices.Insert(h.Prods, at, prod)
		a, b := tell(t, g), tell(t, h)
		if !a.same(b) {
			more++
		}
		for i := range g.Names {
			if a.yields[i] && !b.yields[i] || a.nullable[i] && !b.nullable[i] || a.reached[i] && !b.reached[i] || a.yields[i] && b.lengths[i] > a.lengths[i] || a.nullable[i] && b.trees[i] > a.trees[i] {
				t.Errorf("%s with %v: %v, and before %v", plain(h), prod, b, a)
			}
		}
	}
	if more < 50 {
		t.Errorf("only %d productions changed something", more)
	}
}

// P10.8: the order of the productions of a nonterminal does not matter.
func TestOrderDoesNotMatter(t *testing.T) {
	r := rand.New(rand.NewSource(108))
	for _, g := range grammars(t) {
		f := tell(t, g)
		for range 3 {
			h := clone(g)
			r.Shuffle(len(h.Prods), func(i, j int) { h.Prods[i], h.Prods[j] = h.Prods[j], h.Prods[i] })
			slices.SortStableFunc(h.Prods, func(a, b api.Prod) int { return a.Left - b.Left })
			if x := tell(t, h); !x.same(f) {
				t.Errorf("%s: %v, and in another order %v", plain(h), x, f)
			}
			for i := range g.Names {
				isBelow(t, h, i, wantBelow(g, i), api.OK)
			}
		}
	}
}

// R4: arguments stay as they are, and so does the room behind their slices.
func TestArgumentsStay(t *testing.T) {
	for _, g := range grammars(t) {
		h := clone(g)
		h.Tokens, h.Names, h.Prods = append(h.Tokens, "room"), append(h.Names, "Room"), append(h.Prods, api.Prod{Left: 99, Right: []int{7}})
		for i, prod := range h.Prods {
			h.Prods[i].Right = append(prod.Right, 77)
		}
		before := plain(h)
		x := g
		x.Tokens, x.Names, x.Prods = h.Tokens[:len(g.Tokens)], h.Names[:len(g.Names)], slices.Clone(h.Prods[:len(g.Prods)])
		for i, prod := range x.Prods {
			x.Prods[i].Right = prod.Right[:len(prod.Right)-1]
		}
		right := []int{16, 0, 16, 55}
		tell(t, x)
		isEmpty(t, x, right[:3], false, api.OK)
		isBelow(t, x, 0, wantBelow(g, 0), api.OK)
		if plain(h) != before || plain(x) != plain(g) || !slices.Equal(right, []int{16, 0, 16, 55}) {
			t.Errorf("%s became %s, and %v", before, plain(h), right)
		}
	}
}

// R4: no two results share memory, and a result stays as it is.
func TestNothingIsShared(t *testing.T) {
	for _, g := range grammars(t)[:40] {
		f, w := tell(t, g), want(g)
		for _, l := range [][]bool{f.yields, f.reached, f.nullable} {
			for i := range l {
				l[i] = !l[i]
			}
		}
		for _, l := range [][]int{f.lengths, f.trees} {
			for i := range l {
				l[i] = 99
			}
		}
		below, _ := reach.Below(g, 0)
		for i := range below {
			below[i] = !below[i]
		}
		if x := tell(t, g); !x.same(w) {
			t.Errorf("%s: %v, not %v", plain(g), x, w)
		}
		for i := range f.yields {
			if f.yields[i] == w.yields[i] || f.reached[i] == w.reached[i] || f.nullable[i] == w.nullable[i] || f.lengths[i] != 99 || f.trees[i] != 99 {
				t.Errorf("%s: lists are shared", plain(g))
			}
		}
		isBelow(t, g, 0, wantBelow(g, 0), api.OK)
	}
}

// R4: nil lists and empty ones are equal.
func TestNilAndEmpty(t *testing.T) {
	g := second(t)
	for _, none := range [][]int{nil, {}} {
		g.Prods[3].Right = none
		if f := tell(t, g); !f.same(want(second(t))) {
			t.Errorf("%v", f)
		}
	}
	for _, none := range [][]api.Prod{nil, {}} {
		g.Prods = none
		alone(t, g, api.ErrMissing)
	}
}

// P1, R5: no argument is too great or too strange.
func TestAllArgumentsAreTaken(t *testing.T) {
	g := second(t)
	long := slices.Repeat([]int{18, 17, 16}, 1<<18)
	isEmpty(t, g, long, true, api.OK)
	long[len(long)-1] = 0
	isEmpty(t, g, long, false, api.OK)
	long[len(long)-1] = 19
	isEmpty(t, g, long, false, api.ErrSymbol)
	for _, n := range strange {
		h := clone(g)
		h.K = n
		alone(t, h, api.ErrRange)
		h = clone(g)
		h.Start = n
		alone(t, h, api.ErrSymbol)
		h = clone(g)
		h.Prods[3].Left = n
		alone(t, h, api.ErrSymbol)
		h = clone(g)
		h.Prods[0].Right[1] = n
		alone(t, h, api.ErrSymbol)
	}
	g.Prods = make([]api.Prod, 1<<20)
	alone(t, g, api.ErrFull)
}
