package recur_test

import (
	"fmt"
	"math"
	"math/rand"
	"slices"
	"strconv"
	"strings"
	"testing"

	"stenotype/api"
	"stenotype/grammar"
	"stenotype/recur"
	"stenotype/source"
)

// strange are numbers that no grammar has as symbols, nonterminals or productions.
var strange = []int{math.MinInt, math.MinInt + 1, math.MinInt + 16, -17, -16, -1, 24, 25, 40, 1 << 32, 1<<32 + 16, math.MaxInt - 16, math.MaxInt}

// facts are what the functions say of a grammar: by for each production, begins and cycles for each nonterminal; a cycle that is not there is empty.
type facts struct {
	by, begins, cycles [][]int
	left, order        []int
	err                api.Errno
	first, height      int
}

// same reports whether f and x are equal.
func (f facts) same(x facts) bool { return fmt.Sprint(f) == fmt.Sprint(x) }

// read returns the grammar with the terminals a, b and c, the start S and these rules.
func read(t *testing.T, rules string) api.Grammar {
	t.Helper()
	x, f := source.Parse("lookahead 1; token a, b, c; separator s; start S; " + rules)
	g, e := grammar.Of(x)
	if f != (api.Fault{}) || e != api.OK {
		t.Fatalf("%s: %v, %v", rules, f, e)
	}
	return g
}

// The grammars of the examples.
func first(t *testing.T) api.Grammar  { return read(t, "S = A a; A = B b; B = | c;") }
func second(t *testing.T) api.Grammar { return read(t, "S = A a; A = B S; B = | c;") }
func third(t *testing.T) api.Grammar  { return read(t, "S = a S | S; A = a; B = b;") }

// plain writes all that is in g, so that two grammars are equal exactly if the same is written for them.
func plain(g api.Grammar) string {
	l := []string{strconv.Itoa(g.K), strings.Join(g.Tokens, ","), g.Sep, strings.Join(g.Names, ","), strconv.Itoa(g.Start)}
	for _, prod := range g.Prods {
		l = append(l, strconv.Itoa(prod.Left)+":")
		for _, symbol := range prod.Right {
			l = append(l, strconv.Itoa(symbol))
		}
	}
	return strings.Join(l, " ")
}

// clone returns a grammar that is equal to g, in memory of its own.
func clone(g api.Grammar) api.Grammar {
	h := g
	h.Tokens, h.Names, h.Prods = slices.Clone(g.Tokens), slices.Clone(g.Names), slices.Clone(g.Prods)
	for i := range h.Prods {
		h.Prods[i].Right = slices.Clone(g.Prods[i].Right)
	}
	return h
}

// bare returns a grammar with that many terminals and nonterminals, and no productions.
func bare(terms, nonterms int) api.Grammar {
	g := api.Grammar{K: 1, Sep: "z", Start: 16}
	for i := range terms {
		g.Tokens = append(g.Tokens, "t"+strconv.Itoa(i))
	}
	for i := range nonterms {
		g.Names = append(g.Names, "N"+strconv.Itoa(i))
	}
	return g
}

// random returns a valid grammar at random with that many terminals and nonterminals, at most prods productions, and at most right symbols on a right side.
// If it is low, what stands before the first terminal has a place behind the left side in one order of the nonterminals, so that nothing is left recursive.
func random(r *rand.Rand, terms, nonterms, prods, right int, low bool) api.Grammar {
	g := bare(terms, nonterms)
	g.K, g.Start = 1+r.Intn(4), 16+r.Intn(nonterms)
	order := r.Perm(nonterms)
	place := make([]int, nonterms)
	for i, n := range order {
		place[n] = i
	}
	var lefts []int
	for i := range nonterms {
		lefts = append(lefts, 16+i)
	}
	for range r.Intn(prods - nonterms + 1) {
		lefts = append(lefts, 16+r.Intn(nonterms))
	}
	slices.Sort(lefts)
	// How many terminals there are, how many right sides are empty, and how many begin with what has the next place, differs from grammar to grammar.
	dull, hollow, ring := r.Intn(7), r.Intn(4), r.Intn(4)
	for _, left := range lefts {
		prod := api.Prod{Left: left}
		if r.Intn(4) >= hollow {
			begun := false
			for range 1 + r.Intn(right) {
				symbol := 16 + r.Intn(nonterms)
				if !begun && r.Intn(3) < ring {
					symbol = 16 + order[(place[left-16]+1)%nonterms]
				}
				if r.Intn(10) < dull || low && !begun && place[symbol-16] <= place[left-16] {
					symbol = r.Intn(terms)
				}
				begun = begun || symbol < 16
				prod.Right = append(prod.Right, symbol)
			}
		}
		g.Prods = append(g.Prods, prod)
	}
	return g
}

// round returns the grammar in which each nonterminal begins with the next one alone, or with the one before; the last one begins with the first one if it is closed.
func round(backward, closed bool) api.Grammar {
	g := bare(1, 8)
	for i := range 8 {
		next := 16 + (i+1)%8
		if backward {
			next = 16 + (i+7)%8
		}
		right := []int{next, 0}
		if !closed && (next == 16 && !backward || next == 23 && backward) {
			right = []int{0, next}
		}
		g.Prods = append(g.Prods, api.Prod{Left: 16 + i, Right: right})
	}
	return g
}

// full returns the grammar with three productions for each nonterminal, in which all are nullable and stand in right sides as often as it is possible.
func full() api.Grammar {
	g := bare(8, 8)
	for i := range 24 {
		prod := api.Prod{Left: 16 + i/3}
		for j := range 6 * min(1, i%3) {
			prod.Right = append(prod.Right, 16+(i+j)%8)
		}
		g.Prods = append(g.Prods, prod)
	}
	return g
}

// stair returns the grammar in which each nonterminal begins with all behind it: by one production with the last six, and by another one with the rest.
func stair() api.Grammar {
	g := bare(1, 8)
	for i := range 8 {
		var behind []int
		for j := i + 1; j < 8; j++ {
			behind = append(behind, 16+j)
		}
		cut := max(0, len(behind)-6)
		g.Prods = append(g.Prods, api.Prod{Left: 16 + i}, api.Prod{Left: 16 + i, Right: behind[cut:]}, api.Prod{Left: 16 + i, Right: behind[:cut]})
	}
	return g
}

// grammars are valid grammars: those of the examples, great and small ones, and some at random.
func grammars(t *testing.T) []api.Grammar {
	l := []api.Grammar{first(t), second(t), third(t), read(t, "S = S;"), read(t, "S = ;"), read(t, "S = a S;"), round(false, true), round(true, true), round(false, false), round(true, false), full(), stair()}
	r := rand.New(rand.NewSource(11))
	for i := range 900 {
		nonterms := 1 + r.Intn(8)
		l = append(l, random(r, 1+r.Intn(8), nonterms, nonterms+r.Intn(25-nonterms), 1+r.Intn(6), i%3 == 0))
	}
	return l
}

// tell returns what the functions say of g, which is valid.
func tell(t *testing.T, g api.Grammar) facts {
	t.Helper()
	var f facts
	var e, o, h api.Errno
	demand := func(is bool, what string, e api.Errno) {
		t.Helper()
		if !is {
			t.Fatalf("%s: %s says %v", plain(g), what, e)
		}
	}
	f.begins, e = recur.Begins(g)
	demand(e == api.OK, "Begins", e)
	f.left, e = recur.Left(g)
	demand(e == api.OK, "Left", e)
	for p := range g.Prods {
		l, e := recur.By(g, p)
		demand(e == api.OK, "By", e)
		f.by = append(f.by, l)
	}
	for n := range g.Names {
		l, e := recur.Cycle(g, n)
		demand(e == api.OK && len(l) > 0 || e == api.ErrMissing && len(l) == 0, "Cycle", e)
		f.cycles = append(f.cycles, l)
	}
	f.err, f.first = recur.Check(g)
	f.order, o = recur.Order(g)
	f.height, h = recur.Height(g)
	demand(o == f.err, "Order", o)
	demand(h == f.err, "Height", h)
	return f
}

// isBy demands that By says this.
func isBy(t *testing.T, g api.Grammar, p int, want []int, err api.Errno) {
	t.Helper()
	if l, e := recur.By(g, p); !slices.Equal(l, want) || e != err {
		t.Errorf("By(%s, %d): %v, %v, not %v, %v", plain(g), p, l, e, want, err)
	}
}

// isCycle demands that Cycle says this.
func isCycle(t *testing.T, g api.Grammar, n int, want []int, err api.Errno) {
	t.Helper()
	if l, e := recur.Cycle(g, n); !slices.Equal(l, want) || e != err {
		t.Errorf("Cycle(%s, %d): %v, %v, not %v, %v", plain(g), n, l, e, want, err)
	}
}

// nullableOf returns which nonterminals of g are nullable: as many rounds as there are nonterminals are enough.
func nullableOf(g api.Grammar) []bool {
	nullable := make([]bool, len(g.Names))
	for range g.Names {
		for _, prod := range g.Prods {
			if !slices.ContainsFunc(prod.Right, func(symbol int) bool { return symbol < 16 || !nullable[symbol-16] }) {
				nullable[prod.Left-16] = true
			}
		}
	}
	return nullable
}

// wantBy returns what the left side of prod begins with by it, place by place.
func wantBy(prod api.Prod, nullable []bool) []int {
	var l []int
	for i, symbol := range prod.Right {
		isKept := func(before int) bool { return before < 16 || !nullable[before-16] }
		if symbol >= 16 && !slices.ContainsFunc(prod.Right[:i], isKept) {
			l = append(l, symbol-16)
		}
	}
	slices.Sort(l)
	return slices.Compact(l)
}

// wantCycle returns the least cycle of n: from the least lists of each length that lead from n to each nonterminal.
func wantCycle(g api.Grammar, by [][]int, n int) []int {
	now := map[int][]int{n: {}}
	for range g.Names {
		next := map[int][]int{}
		for p, prod := range g.Prods {
			before, is := now[prod.Left-16]
			if !is {
				continue
			}
			l := append(slices.Clone(before), p)
			for _, m := range by[p] {
				if next[m] == nil || slices.Compare(l, next[m]) < 0 {
					next[m] = l
				}
			}
		}
		if next[n] != nil {
			return next[n]
		}
		now = next
	}
	return nil
}

// wantOrder returns the first list of all nonterminals behind done in which each one comes after those that it begins with: which is tried with each nonterminal in turn.
func wantOrder(begins [][]int, done []int) []int {
	if len(done) == len(begins) {
		return done
	}
	for n, l := range begins {
		isOpen := func(m int) bool { return !slices.Contains(done, m) }
		if !isOpen(n) || slices.ContainsFunc(l, isOpen) {
			continue
		}
		if order := wantOrder(begins, append(slices.Clone(done), n)); order != nil {
			return order
		}
	}
	return nil
}

// wantHeight returns how many elements the longest chain has, if nothing is left recursive: all chains of one length are looked at by their last elements.
func wantHeight(begins [][]int) int {
	last := map[int]bool{}
	for n := range begins {
		last[n] = true
	}
	height := 0
	for ; len(last) > 0; height++ {
		longer := map[int]bool{}
		for n := range last {
			for _, m := range begins[n] {
				longer[m] = true
			}
		}
		last = longer
	}
	return height
}

// wantChains returns between which nonterminals there are chains of two elements at least: over each nonterminal in turn.
func wantChains(begins [][]int) [8][8]bool {
	var is [8][8]bool
	for n, l := range begins {
		for _, m := range l {
			is[n][m] = true
		}
	}
	for k := range is {
		for i := range is {
			for j := range is {
				is[i][j] = is[i][j] || is[i][k] && is[k][j]
			}
		}
	}
	return is
}

// want returns what is to be said of g, by the words of the terms.
func want(g api.Grammar) facts {
	f := facts{begins: make([][]int, len(g.Names)), cycles: make([][]int, len(g.Names))}
	nullable := nullableOf(g)
	for _, prod := range g.Prods {
		l := wantBy(prod, nullable)
		f.by = append(f.by, l)
		f.begins[prod.Left-16] = append(f.begins[prod.Left-16], l...)
	}
	for n, l := range f.begins {
		slices.Sort(l)
		f.begins[n] = slices.Compact(l)
	}
	chains := wantChains(f.begins)
	for n := range g.Names {
		if chains[n][n] {
			f.left, f.cycles[n] = append(f.left, n), wantCycle(g, f.by, n)
		}
	}
	if len(f.left) > 0 {
		f.err, f.first = api.ErrLeft, f.left[0]
		return f
	}
	f.order, f.height = wantOrder(f.begins, nil), wantHeight(f.begins)
	return f
}

// The rows of the examples.
func TestExamples(t *testing.T) {
	for _, c := range []struct {
		g    api.Grammar
		want facts
	}{
		{first(t), facts{[][]int{{1}, {2}, nil, nil}, [][]int{{1}, {2}, nil}, make([][]int, 3), nil, []int{2, 1, 0}, api.OK, 0, 3}},
		{second(t), facts{[][]int{{1}, {0, 2}, nil, nil}, [][]int{{1}, {0, 2}, nil}, [][]int{{0, 1}, {1, 0}, nil}, []int{0, 1}, nil, api.ErrLeft, 0, 0}},
		{third(t), facts{[][]int{nil, {0}, nil, nil}, [][]int{{0}, nil, nil}, [][]int{{1}, nil, nil}, []int{0}, nil, api.ErrLeft, 0, 0}},
	} {
		if f := tell(t, c.g); !f.same(c.want) {
			t.Errorf("%s: %v, not %v", plain(c.g), f, c.want)
		}
	}
	isCycle(t, second(t), 0, []int{0, 1}, api.OK)
	isCycle(t, second(t), 1, []int{1, 0}, api.OK)
	isCycle(t, second(t), 2, nil, api.ErrMissing)
	isBy(t, second(t), 1, []int{0, 2}, api.OK)
	isCycle(t, second(t), 3, nil, api.ErrRange)
	if l, e := recur.Order(third(t)); len(l) != 0 || e != api.ErrLeft {
		t.Errorf("Order: %v, %v", l, e)
	}
}

// P11.1 to P11.3: all that is said of grammars, held against a second way.
func TestFacts(t *testing.T) {
	lengths, heights, firsts := map[int]int{}, map[int]int{}, map[int]int{}
	for _, g := range grammars(t) {
		if e := grammar.Check(g); e != api.OK {
			t.Fatalf("%s: %v", plain(g), e)
		}
		f, w := tell(t, g), want(g)
		if !f.same(w) {
			t.Errorf("%s: %v, not %v", plain(g), f, w)
		}
		for _, l := range f.cycles {
			lengths[len(l)]++
		}
		heights[f.height]++
		firsts[f.first]++
	}
	for n := 1; n <= 6; n++ {
		if lengths[n] < 10 || heights[n] < 10 || firsts[n] < 2 {
			t.Errorf("the grammars are too much alike: %v, %v, %v", lengths, heights, firsts)
		}
	}
}

// P11.1: places in right sides, one by one.
func TestBy(t *testing.T) {
	for _, c := range []struct {
		rules string
		by    [][]int
	}{
		{"S = a A; A = b | ;", [][]int{nil, nil, nil}},
		{"S = A B a; A = b; B = c;", [][]int{{1}, nil, nil}},
		{"S = A B a; A = b | ; B = c;", [][]int{{1, 2}, nil, nil, nil}},
		{"S = B A a; A = b | ; B = c;", [][]int{{2}, nil, nil, nil}},
		{"S = A A B B A S; A = b | ; B = c;", [][]int{{1, 2}, nil, nil, nil}},
		{"S = A A B B A S; A = b | ; B = A;", [][]int{{0, 1, 2}, nil, nil, {1}}},
		{"S = A a S; A = B B | ; B = A A;", [][]int{{1}, {2}, nil, {1}}},
		{"S = A A A A A B; A = ; B = A A A S;", [][]int{{1, 2}, nil, {0, 1}}},
		{"S = S | S S | S a | ;", [][]int{{0}, {0}, {0}, nil}},
	} {
		g := read(t, c.rules)
		for p, l := range c.by {
			isBy(t, g, p, l, api.OK)
		}
	}
}

// P11.1: By takes numbers of productions alone.
func TestNumbersOfProductions(t *testing.T) {
	for _, g := range grammars(t)[:80] {
		for p, l := range want(g).by {
			isBy(t, g, p, l, api.OK)
		}
		for _, p := range slices.Concat(strange, []int{len(g.Prods), len(g.Prods) + 1}) {
			isBy(t, g, p, nil, api.ErrRange)
		}
	}
}

// P11.2: Left has all nonterminals of cycles, and Check tells the first one.
func TestLeft(t *testing.T) {
	for _, c := range []struct {
		rules string
		left  []int
	}{
		{"S = a S;", nil},
		{"S = S;", []int{0}},
		{"S = A; A = A a;", []int{1}},
		{"S = A; A = B; B = A;", []int{1, 2}},
		{"S = A; A = a; B = B;", []int{2}},
		{"S = A S; A = a;", nil},
		{"S = A S; A = a | ;", []int{0}},
		{"S = A S; A = B; B = b B |;", []int{0}},
		{"S = a | A; A = a S; B = S B;", nil},
		{"S = A B; A = B | ; B = S; C = S C; D = C D C;", []int{0, 1, 2}},
		{"S = a; A = A a | b; B = B b | c;", []int{1, 2}},
		{"S = a A B; A = B | ; B = b | A;", []int{1, 2}},
	} {
		g := read(t, c.rules)
		if l, e := recur.Left(g); !slices.Equal(l, c.left) || e != api.OK {
			t.Errorf("Left(%s): %v, %v", c.rules, l, e)
		}
		e, n := recur.Check(g)
		if len(c.left) == 0 && (e != api.OK || n != 0) || len(c.left) > 0 && (e != api.ErrLeft || n != c.left[0]) {
			t.Errorf("Check(%s): %v, %d", c.rules, e, n)
		}
	}
}

// P11.3: the least cycle has the fewest productions, and is the first one of these.
func TestLeastCycles(t *testing.T) {
	for _, c := range []struct {
		rules  string
		cycles [][]int
	}{
		{"S = S | S | S a;", [][]int{{0}}},
		{"S = A | S; A = S;", [][]int{{1}, {2, 0}}},
		{"S = A | B; A = a | S; B = S;", [][]int{{0, 3}, {3, 0}, {4, 1}}},
		{"S = A | B; A = B; B = S;", [][]int{{1, 3}, {2, 3, 0}, {3, 1}}},
		{"S = B | A; A = S; B = S;", [][]int{{0, 3}, {2, 1}, {3, 0}}},
		{"S = A B; A = S | ; B = S;", [][]int{{0, 1}, {1, 0}, {3, 0}}},
		{"S = A B | B; A = ; B = c | S | S;", [][]int{{0, 4}, nil, {4, 0}}},
		{"S = A; A = B | C; B = D; C = D; D = S;", [][]int{{0, 1, 3, 5}, {1, 3, 5, 0}, {3, 5, 0, 1}, {4, 5, 0, 2}, {5, 0, 1, 3}}},
		{"S = A | B; A = C; B = D; C = a; D = S;", [][]int{{1, 3, 5}, nil, {3, 5, 1}, nil, {5, 1, 3}}},
		{"S = A; A = A;", [][]int{nil, {1}}},
	} {
		g := read(t, c.rules)
		for n, l := range c.cycles {
			err := api.OK
			if l == nil {
				err = api.ErrMissing
			}
			isCycle(t, g, n, l, err)
		}
	}
	for n := range 8 {
		forward, backward := []int{}, []int{}
		for i := range 8 {
			forward, backward = append(forward, (n+i)%8), append(backward, (n+8-i)%8)
		}
		isCycle(t, round(false, true), n, forward, api.OK)
		isCycle(t, round(true, true), n, backward, api.OK)
		isCycle(t, round(false, false), n, nil, api.ErrMissing)
	}
}

// P11.3: Cycle takes numbers of nonterminals alone.
func TestNumbersOfNonterminals(t *testing.T) {
	for _, g := range grammars(t)[:80] {
		for _, n := range slices.Concat(strange, []int{len(g.Names), len(g.Names) + 1, 8, 15, 16, 17, 23}) {
			isCycle(t, g, n, nil, api.ErrRange)
		}
	}
}

// P11.3: the order, and the height.
func TestOrderAndHeight(t *testing.T) {
	for _, c := range []struct {
		rules  string
		order  []int
		height int
	}{
		{"S = a;", []int{0}, 1},
		{"S = a S; A = b A S; B = c B;", []int{0, 1, 2}, 1},
		{"S = A; A = a; B = b;", []int{1, 0, 2}, 2},
		{"S = B; A = a; B = b;", []int{1, 2, 0}, 2},
		{"S = B; A = a; B = A;", []int{1, 2, 0}, 3},
		{"S = a; A = B; B = S; C = A;", []int{0, 2, 1, 3}, 4},
		{"S = A B C; A = ; B = ; C = a;", []int{1, 2, 3, 0}, 2},
		{"S = C; A = C; B = A | S; C = a;", []int{3, 0, 1, 2}, 3},
		{"S = D; A = a; B = S; C = A; D = a;", []int{1, 3, 4, 0, 2}, 3},
	} {
		g := read(t, c.rules)
		l, e := recur.Order(g)
		if !slices.Equal(l, c.order) || e != api.OK {
			t.Errorf("Order(%s): %v, %v", c.rules, l, e)
		}
		n, e := recur.Height(g)
		if n != c.height || e != api.OK {
			t.Errorf("Height(%s): %d, %v", c.rules, n, e)
		}
	}
	for _, backward := range []bool{false, true} {
		if f := tell(t, round(backward, false)); f.height != 8 || slices.IsSorted(f.order) != backward {
			t.Errorf("%v: %v", backward, f)
		}
	}
	if f := tell(t, stair()); f.height != 8 || !slices.Equal(f.order, []int{7, 6, 5, 4, 3, 2, 1, 0}) {
		t.Errorf("%v", f)
	}
}

// The terms: what forms of leftmost derivations begin with, in grammars so small that a form never needs to be longer than width.
func TestDerivations(t *testing.T) {
	r := rand.New(rand.NewSource(111))
	count := map[int]int{}
	for range 300 {
		g := random(r, 1, 2, 5, 3, false)
		w := want(g)
		chains := wantChains(w.begins)
		f := tell(t, g)
		for n := range g.Names {
			starts := startsOf(g, n, 10)
			for m := range g.Names {
				if chains[n][m] != starts[m] {
					t.Errorf("%s: %d begins with %d: %v, %v", plain(g), n, m, chains[n][m], starts[m])
				}
			}
			if slices.Contains(f.left, n) != starts[n] {
				t.Errorf("%s: %v, but %d: %v", plain(g), f.left, n, starts)
			}
		}
		count[len(f.left)]++
	}
	if count[0] < 40 || count[1] < 40 || count[2] < 40 {
		t.Errorf("the grammars are too much alike: %v", count)
	}
}

// startsOf returns with which nonterminals the forms begin that n leads to in one step at least, if always the first symbol is replaced, and what is behind the first width symbols is left away.
func startsOf(g api.Grammar, n, width int) []bool {
	starts := make([]bool, len(g.Names))
	begin := string([]byte{byte(16 + n)})
	seen := map[string]bool{}
	for forms := []string{begin}; len(forms) > 0; forms = forms[1:] {
		form := forms[0]
		for _, prod := range g.Prods {
			if form == "" || int(form[0]) != prod.Left {
				continue
			}
			var right []byte
			for _, symbol := range prod.Right {
				right = append(right, byte(symbol))
			}
			next := string(right) + form[1:]
			next = next[:min(len(next), width)]
			if seen[next] {
				continue
			}
			seen[next] = true
			forms = append(forms, next)
			if next != "" && next[0] >= 16 {
				starts[next[0]-16] = true
			}
		}
	}
	return starts
}

// isCycleOf reports whether l is a cycle of n, by the word of the terms.
func isCycleOf(t *testing.T, g api.Grammar, l []int, n int) bool {
	t.Helper()
	for i, p := range l {
		if i == 0 && g.Prods[p].Left != 16+n {
			return false
		}
		starts, e := recur.By(g, p)
		if e != api.OK {
			t.Fatalf("By(%s, %d): %v", plain(g), p, e)
		}
		if !slices.Contains(starts, g.Prods[l[(i+1)%len(l)]].Left-16) {
			return false
		}
	}
	return len(l) > 0
}

// P11.3, the terms: in small grammars, all lists of productions are gone through, the short ones first and those of one length in order.
func TestAllLists(t *testing.T) {
	r := rand.New(rand.NewSource(113))
	count := map[int]int{}
	for range 150 {
		g := random(r, 1, 3, 6, 2, false)
		for n := range g.Names {
			var want []int
			err := api.ErrMissing
		search:
			for length := 1; length <= 3; length++ {
				l := make([]int, length)
				for {
					if isCycleOf(t, g, l, n) {
						want, err = l, api.OK
						break search
					}
					i := length - 1
					for i >= 0 && l[i] == len(g.Prods)-1 {
						l[i] = 0
						i--
					}
					if i < 0 {
						break
					}
					l[i]++
				}
			}
			isCycle(t, g, n, want, err)
			count[len(want)]++
		}
	}
	if count[0] < 50 || count[1] < 40 || count[2] < 30 || count[3] < 10 {
		t.Errorf("the cycles are too much alike: %v", count)
	}
}

// P11.4: left recursive is what has a cycle, which is not longer than there are nonterminals.
func TestCyclesOfLeft(t *testing.T) {
	longest := 0
	for _, g := range grammars(t) {
		f := tell(t, g)
		for n, l := range f.cycles {
			if slices.Contains(f.left, n) != (len(l) > 0) || len(l) > len(g.Names) {
				t.Errorf("%s: %v, but %d has %v", plain(g), f.left, n, l)
			}
			if len(l) > 0 && !isCycleOf(t, g, l, n) {
				t.Errorf("%s: %v is no cycle of %d", plain(g), l, n)
			}
			longest = max(longest, len(l))
		}
	}
	if longest != 8 {
		t.Errorf("the longest cycle has %d productions", longest)
	}
}

// P11.5: nothing is left recursive exactly if there is an order, in which each one comes after those that it begins with.
func TestOrderIsThere(t *testing.T) {
	count := map[api.Errno]int{}
	for _, g := range grammars(t) {
		f := tell(t, g)
		count[f.err]++
		if (wantOrder(f.begins, nil) != nil) != (f.err == api.OK) || (len(f.left) == 0) != (f.err == api.OK) {
			t.Errorf("%s: %v", plain(g), f)
		}
		if f.err != api.OK {
			continue
		}
		for n := range g.Names {
			at := slices.Index(f.order, n)
			if at < 0 || len(f.order) != len(g.Names) {
				t.Fatalf("%s: %v", plain(g), f.order)
			}
			for _, m := range f.begins[n] {
				if slices.Index(f.order, m) >= at {
					t.Errorf("%s: %d comes before %d in %v", plain(g), n, m, f.order)
				}
			}
		}
	}
	if count[api.OK] < 100 || count[api.ErrLeft] < 100 {
		t.Errorf("the grammars are too much alike: %v", count)
	}
}

// P11.6, P11.7: without a production that begins with a nonterminal nothing is left recursive, and the height is 1.
func TestTerminalsFirst(t *testing.T) {
	for _, g := range grammars(t) {
		g = clone(g)
		for i, prod := range g.Prods {
			if len(prod.Right) > 0 && prod.Right[0] >= 16 {
				g.Prods[i].Right[0] = i % len(g.Tokens)
			}
		}
		w := facts{by: make([][]int, len(g.Prods)), begins: make([][]int, len(g.Names)), cycles: make([][]int, len(g.Names)), height: 1}
		for n := range g.Names {
			w.order = append(w.order, n)
		}
		if f := tell(t, g); !f.same(w) {
			t.Errorf("%s: %v", plain(g), f)
		}
	}
}

// P11.6: with one production more not fewer nonterminals are left recursive.
func TestMoreProductions(t *testing.T) {
	r := rand.New(rand.NewSource(116))
	more := 0
	for _, g := range grammars(t) {
		if len(g.Prods) == api.MaxProds {
			continue
		}
		h := clone(g)
		prod := api.Prod{Left: 16 + r.Intn(len(g.Names))}
		for range r.Intn(3) {
			prod.Right = append(prod.Right, 16+r.Intn(len(g.Names)))
		}
		at := 0
		for at < len(h.Prods) && h.Prods[at].Left < prod.Left {
			at++
		}
		h.Prods = slices.Insert(h.Prods, at, prod)
		a, b := tell(t, g), tell(t, h)
		if len(a.left) < len(b.left) {
			more++
		}
		for _, n := range a.left {
			if !slices.Contains(b.left, n) {
				t.Errorf("%s with %v: %v, and before %v", plain(h), prod, b.left, a.left)
			}
		}
	}
	if more < 50 {
		t.Errorf("only %d productions changed something", more)
	}
}

// P11.7: the height is at most the number of nonterminals, and 1 exactly if nothing begins with a nonterminal.
func TestHeights(t *testing.T) {
	count := map[int]int{}
	for _, g := range grammars(t) {
		f := tell(t, g)
		if f.err != api.OK {
			continue
		}
		isBegun := func(l []int) bool { return len(l) > 0 }
		if f.height < 1 || f.height > len(g.Names) || (f.height == 1) == slices.ContainsFunc(f.begins, isBegun) {
			t.Errorf("%s: %v", plain(g), f)
		}
		count[f.height]++
	}
	if len(count) != 8 {
		t.Errorf("the grammars are too much alike: %v", count)
	}
}

// P11.8: what begins with one that is left recursive through it is left recursive itself.
func TestThrough(t *testing.T) {
	through := 0
	for _, g := range grammars(t) {
		f := tell(t, g)
		chains := wantChains(f.begins)
		for a, l := range f.begins {
			for _, b := range l {
				if !chains[b][a] {
					continue
				}
				through++
				if !slices.Contains(f.left, b) || !slices.Contains(f.left, a) {
					t.Errorf("%s: %d, %d, %v", plain(g), a, b, f.left)
				}
			}
		}
	}
	if through < 100 {
		t.Errorf("only %d are left recursive through another one", through)
	}
}

// alone demands that all functions return err for g, and nothing else, whatever they are asked for.
func alone(t *testing.T, g api.Grammar, err api.Errno) {
	t.Helper()
	begins, e := recur.Begins(g)
	left, f := recur.Left(g)
	order, h := recur.Order(g)
	height, i := recur.Height(g)
	if len(begins)+len(left)+len(order)+height != 0 || e != err || f != err || h != err || i != err {
		t.Errorf("%s: %v, %v, %v, %v, not %v", plain(g), e, f, h, i, err)
	}
	if e, n := recur.Check(g); n != 0 || e != err {
		t.Errorf("Check(%s): %v, %d, not %v", plain(g), e, n, err)
	}
	for _, n := range []int{-1, 0, 1, 2, 3, 99, math.MinInt, math.MaxInt} {
		isBy(t, g, n, nil, err)
		isCycle(t, g, n, nil, err)
	}
}

// P11.1, R1, R3: all functions return the error of grammar.Check first, and alone.
func TestErrorsOfCheck(t *testing.T) {
	for _, c := range []struct {
		change func(g *api.Grammar)
		err    api.Errno
	}{
		{func(g *api.Grammar) { g.K = 0 }, api.ErrRange},
		{func(g *api.Grammar) { g.K = 5 }, api.ErrRange},
		{func(g *api.Grammar) { g.Prods[0].Right = make([]int, 7) }, api.ErrFull},
		{func(g *api.Grammar) { g.Prods = slices.Repeat(g.Prods, 9) }, api.ErrFull},
		{func(g *api.Grammar) { g.Tokens = nil }, api.ErrShort},
		{func(g *api.Grammar) { g.Names = nil }, api.ErrShort},
		{func(g *api.Grammar) { *g = api.Grammar{K: 1} }, api.ErrShort},
		{func(g *api.Grammar) { *g = api.Grammar{} }, api.ErrRange},
		{func(g *api.Grammar) { g.Sep = "S" }, api.ErrName},
		{func(g *api.Grammar) { g.Names[2] = "c" }, api.ErrName},
		{func(g *api.Grammar) { g.Tokens[1] = "a" }, api.ErrExists},
		{func(g *api.Grammar) { g.Start = 19 }, api.ErrSymbol},
		{func(g *api.Grammar) { g.Start = 15 }, api.ErrSymbol},
		{func(g *api.Grammar) { g.Prods[0].Right[0] = 3 }, api.ErrSymbol},
		{func(g *api.Grammar) { g.Prods[0].Right[0] = -1 }, api.ErrSymbol},
		{func(g *api.Grammar) { g.Prods[0].Left = 99 }, api.ErrSymbol},
		{func(g *api.Grammar) { slices.Reverse(g.Prods) }, api.ErrOrder},
		{func(g *api.Grammar) { g.Prods = g.Prods[:2] }, api.ErrMissing},
		{func(g *api.Grammar) { g.Prods = nil }, api.ErrMissing},
	} {
		for _, g := range []api.Grammar{first(t), second(t)} {
			c.change(&g)
			if e := grammar.Check(g); e != c.err {
				t.Fatalf("%s: %v", plain(g), e)
			}
			alone(t, g, c.err)
		}
	}
}

// R3: ErrLeft of Order and Height, ErrRange and ErrMissing come with nothing else; that of Check has its nonterminal.
func TestErrorsAlone(t *testing.T) {
	g := read(t, "S = A; A = B; B = B | b;")
	order, e := recur.Order(g)
	height, f := recur.Height(g)
	h, n := recur.Check(g)
	if len(order) != 0 || e != api.ErrLeft || height != 0 || f != api.ErrLeft || h != api.ErrLeft || n != 2 {
		t.Errorf("%v, %v, %d, %v, %v, %d", order, e, height, f, h, n)
	}
	isCycle(t, g, 0, nil, api.ErrMissing)
	isCycle(t, g, 1, nil, api.ErrMissing)
	isCycle(t, g, 2, []int{2}, api.OK)
}

// R4: arguments stay as they are, and so does the room behind their slices.
func TestArgumentsStay(t *testing.T) {
	for _, g := range grammars(t) {
		h := clone(g)
		h.Tokens, h.Names, h.Prods = append(h.Tokens, "room"), append(h.Names, "Room"), append(h.Prods, api.Prod{Left: 99, Right: []int{7}})
		for i, prod := range h.Prods {
			h.Prods[i].Right = append(prod.Right, 77)
		}
		before := plain(h)
		x := g
		x.Tokens, x.Names, x.Prods = h.Tokens[:len(g.Tokens)], h.Names[:len(g.Names)], slices.Clone(h.Prods[:len(g.Prods)])
		for i, prod := range x.Prods {
			x.Prods[i].Right = prod.Right[:len(prod.Right)-1]
		}
		tell(t, x)
		if plain(h) != before || plain(x) != plain(g) {
			t.Errorf("%s became %s", before, plain(h))
		}
	}
}

// R4: no two results, and no two lists of one result, share memory, and a result stays as it is.
func TestNothingIsShared(t *testing.T) {
	for _, g := range grammars(t)[:80] {
		f, w := tell(t, g), want(g)
		lists := slices.Concat(f.by, f.begins, f.cycles, [][]int{f.left, f.order})
		for i, l := range lists {
			l = append(l, 0)
			for j := range l[:cap(l)] {
				l[:cap(l)][j] = 100 + i
			}
			copy(lists[i], l)
		}
		for i, l := range lists {
			for _, n := range l {
				if n != 100+i {
					t.Errorf("%s: lists are shared", plain(g))
				}
			}
		}
		if x := tell(t, g); !x.same(w) {
			t.Errorf("%s: %v, not %v", plain(g), x, w)
		}
	}
}

// R4: nil lists and empty ones are equal.
func TestNilAndEmpty(t *testing.T) {
	for _, none := range [][]int{nil, {}} {
		for _, g := range []api.Grammar{first(t), second(t)} {
			w := want(g)
			g.Prods[2].Right = none
			if f := tell(t, g); !f.same(w) {
				t.Errorf("%v", f)
			}
		}
	}
	for _, none := range [][]api.Prod{nil, {}} {
		g := first(t)
		g.Prods = none
		alone(t, g, api.ErrMissing)
	}
}

// R6: the same argument leads to the same results each time.
func TestAgain(t *testing.T) {
	for _, g := range grammars(t)[:80] {
		f := tell(t, g)
		for range 5 {
			if x := tell(t, clone(g)); !x.same(f) {
				t.Errorf("%s: %v, and then %v", plain(g), f, x)
			}
		}
	}
}

// P1, R5: no argument is too great or too strange.
func TestAllArgumentsAreTaken(t *testing.T) {
	g := first(t)
	for _, n := range strange {
		h := clone(g)
		h.K = n
		alone(t, h, api.ErrRange)
		h = clone(g)
		h.Start = n
		alone(t, h, api.ErrSymbol)
		h = clone(g)
		h.Prods[3].Left = n
		alone(t, h, api.ErrSymbol)
		h = clone(g)
		h.Prods[0].Right[1] = n
		alone(t, h, api.ErrSymbol)
	}
	g.Prods = make([]api.Prod, 1<<20)
	alone(t, g, api.ErrFull)
}
