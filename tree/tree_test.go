package tree_test

import (
	"cmp"
	"math"
	"math/rand"
	"slices"
	"strconv"
	"strings"
	"testing"

	"stenotype/api"
	"stenotype/derive"
	"stenotype/grammar"
	"stenotype/look"
	"stenotype/predict"
	"stenotype/reach"
	"stenotype/token"
	"stenotype/tree"
)

// Symbols are written as letters: a to h are the terminals 0 to 7, S to Z the nonterminals 16 to 23.
// Trees are written as S0(aT3()b): the letter, the production, and the kids in parentheses.

// strange are numbers that no grammar has as symbols or productions.
var strange = []int{math.MinInt, math.MinInt + 1, math.MinInt + 16, -257, -17, -16, -2, 24, 25, 40, 256, 1 << 16, 1 << 32, 1<<32 + 16, math.MaxInt - 16, math.MaxInt}

// symbol returns the symbol that is written as this letter.
func symbol(letter byte) int {
	if letter >= 'S' && letter <= 'Z' {
		return 16 + int(letter-'S')
	}
	return int(letter - 'a')
}

// letter returns the letter of a symbol.
func letter(symbol int) string {
	if symbol >= 16 {
		return string(rune('S' + symbol - 16))
	}
	return string(rune('a' + symbol))
}

// form returns the symbols of a text.
func form(text string) []int {
	var l []int
	for i := range len(text) {
		l = append(l, symbol(text[i]))
	}
	return l
}

// rules returns a grammar with so much lookahead, so many terminals, and these rules, as S=aSb|T T=b, one for each nonterminal, in order.
func rules(k, terms int, text string) api.Grammar {
	g := api.Grammar{K: k, Sep: "z", Start: 16}
	for i := range terms {
		g.Tokens = append(g.Tokens, letter(i))
	}
	for _, rule := range strings.Fields(text) {
		g.Names = append(g.Names, rule[:1])
		for _, right := range strings.Split(rule[2:], "|") {
			g.Prods = append(g.Prods, api.Prod{Left: symbol(rule[0]), Right: form(right)})
		}
	}
	if e := grammar.Check(g); e != api.OK {
		panic(text + ": " + e.Error())
	}
	return g
}

// example returns the grammar of the examples.
func example() api.Grammar { return rules(2, 3, "S=aSb|T T=c|") }

// written writes a grammar as its lookahead, its start, and its productions.
func written(g api.Grammar) string {
	s := []string{"K", strconv.Itoa(g.K), "terminals", strconv.Itoa(len(g.Tokens)), "start", strconv.Itoa(g.Start)}
	for _, p := range g.Prods {
		right := ""
		for _, x := range p.Right {
			right += letter(x)
		}
		s = append(s, letter(p.Left)+"="+right)
	}
	return strings.Join(s, " ")
}

// clone returns a grammar that is equal to g, in memory of its own.
func clone(g api.Grammar) api.Grammar {
	h := g
	h.Tokens, h.Names, h.Prods = slices.Clone(g.Tokens), slices.Clone(g.Names), slices.Clone(g.Prods)
	for i := range h.Prods {
		h.Prods[i].Right = slices.Clone(g.Prods[i].Right)
	}
	return h
}

// anyForm returns at most most symbols of g; the greater dull is, from 0 to 4, the more of them are terminals.
func anyForm(r *rand.Rand, g api.Grammar, dull, most int) []int {
	var l []int
	for range r.Intn(most + 1) {
		x := 16 + r.Intn(len(g.Names))
		if r.Intn(4) < dull {
			x = r.Intn(len(g.Tokens))
		}
		l = append(l, x)
	}
	return l
}

// random returns a valid grammar at random with that many terminals and nonterminals, at most prods productions, and at most right symbols on a right side.
func random(r *rand.Rand, k, terms, nonterms, prods, right int) api.Grammar {
	g := api.Grammar{K: k, Sep: "z", Start: 16 + r.Intn(nonterms)}
	for i := range terms {
		g.Tokens = append(g.Tokens, letter(i))
	}
	var lefts []int
	for i := range nonterms {
		g.Names = append(g.Names, letter(16+i))
		lefts = append(lefts, 16+i)
	}
	for range r.Intn(prods - nonterms + 1) {
		lefts = append(lefts, 16+r.Intn(nonterms))
	}
	slices.Sort(lefts)
	dull := 1 + r.Intn(3)
	for _, left := range lefts {
		g.Prods = append(g.Prods, api.Prod{Left: left, Right: anyForm(r, g, dull, right)})
	}
	return g
}

// sound are grammars that are strong LL(k), the last ones not with a lesser lookahead.
func sound() []api.Grammar {
	return []api.Grammar{
		example(), rules(1, 2, "S=aSb|"), rules(1, 1, "S=aS|"), rules(1, 1, "S="), rules(1, 2, "S=aSSb|b"), rules(1, 3, "S=TUV T=a| U=b| V=c|"),
		rules(1, 5, "S=UT T=aUT| U=WV V=bWV| W=cSd|e"), rules(1, 2, "S=TTTa|b T=UU U="), rules(1, 8, "S=aT|bU|cV|d T=eS U=fS|g V=hT|a"),
		rules(2, 2, "S=a|ab"), rules(2, 3, "S=TS| T=aU|ac U=b|"), rules(3, 2, "S=aaS|aa|b"), rules(3, 3, "S=TUab T=ab| U=cU|"),
		rules(4, 3, "S=TT T=bbbU|bbba U=cT|"), rules(4, 2, "S=aaaS|aaab"),
	}
}

// grammars are sound grammars, some with a point, and many at random, of at most so many terminals.
func grammars(seed int64, many, terms int) []api.Grammar {
	l := append(sound(),
		rules(1, 1, "S=S"), rules(1, 1, "S=|S"), rules(1, 1, "S=S|a"), rules(2, 1, "S=SS|a|"), rules(1, 1, "S=Sa"), rules(2, 1, "S=aSa|"), rules(1, 2, "S=aS|aT| T=bT|bb|"),
		rules(2, 2, "S=T T=U U=S|a|Sb"), rules(1, 2, "S=TT T=UU|a U=VV| V=b|T"), rules(3, 2, "S=TU T=|aT U=|bU"), rules(1, 1, "S=T T=U U=V V=W W=X X=Y Y=Z Z=a|Sa"),
	)
	r := rand.New(rand.NewSource(seed))
	for range many {
		nonterms := 1 + min(r.Intn(8), r.Intn(8))
		l = append(l, random(r, 1+min(r.Intn(4), r.Intn(4)), 1+r.Intn(terms), nonterms, min(24, 3*nonterms), 1+min(r.Intn(6), r.Intn(6))))
	}
	return l
}

// leaf returns a tree of a terminal.
func leaf(symbol int) api.Tree { return api.Tree{Symbol: symbol, Prod: -1} }

// node returns a tree with these kids.
func node(symbol, prod int, kids ...api.Tree) api.Tree {
	return api.Tree{Symbol: symbol, Prod: prod, Kids: kids}
}

// planted returns the tree of a text.
func planted(text string) api.Tree {
	t, _ := plant(text)
	return t
}

// plant returns the tree with whose text the text begins, and what is behind it.
func plant(text string) (api.Tree, string) {
	t := leaf(symbol(text[0]))
	text = text[1:]
	if t.Symbol < 16 {
		return t, text
	}
	open := strings.Index(text, "(")
	t.Prod, _ = strconv.Atoi(text[:open])
	for text = text[open+1:]; text[0] != ')'; {
		var kid api.Tree
		kid, text = plant(text)
		t.Kids = append(t.Kids, kid)
	}
	return t, text[1:]
}

// show writes a tree; one that no grammar has is written with numbers. Trees are equal exactly if they are written the same.
func show(t api.Tree) string {
	var s strings.Builder
	write(&s, t)
	return s.String()
}

// write writes a tree behind what is there.
func write(s *strings.Builder, t api.Tree) {
	switch {
	case t.Symbol >= 0 && t.Symbol < 8 && t.Prod == -1 && len(t.Kids) == 0:
		s.WriteString(letter(t.Symbol))
		return
	case t.Symbol >= 16 && t.Symbol < 24 && t.Prod >= 0:
		s.WriteString(letter(t.Symbol) + strconv.Itoa(t.Prod) + "(")
	default:
		s.WriteString("[" + strconv.Itoa(t.Symbol) + " " + strconv.Itoa(t.Prod) + "](")
	}
	for _, kid := range t.Kids {
		write(s, kid)
	}
	s.WriteString(")")
}

// shortened returns a text, but no more of it than one wants to read.
func shortened(text string) string { return text[:min(len(text), 200)] }

// deep returns the depth of a tree.
func deep(t api.Tree) int {
	depth := 0
	for _, kid := range t.Kids {
		depth = max(depth, deep(kid))
	}
	return depth + 1
}

// size returns how many nodes a tree has.
func size(t api.Tree) int {
	n := 1
	for _, kid := range t.Kids {
		n += size(kid)
	}
	return n
}

// isRight reports whether t is a right tree of g with this symbol, but for how great it is.
func isRight(g api.Grammar, t api.Tree, symbol int) bool {
	if t.Symbol != symbol || symbol < 0 || symbol >= len(g.Tokens) && symbol < 16 || symbol >= 16+len(g.Names) {
		return false
	}
	if symbol < 16 {
		return t.Prod == -1 && len(t.Kids) == 0
	}
	for p, prod := range g.Prods {
		if p != t.Prod || prod.Left != symbol || len(prod.Right) != len(t.Kids) {
			continue
		}
		for i, kid := range t.Kids {
			if !isRight(g, kid, prod.Right[i]) {
				return false
			}
		}
		return true
	}
	return false
}

// wantCheck is what Check is to return for a tree that is not too great to go through.
func wantCheck(g api.Grammar, t api.Tree) api.Errno {
	switch {
	case deep(t) > 200:
		return api.ErrDepth
	case size(t) > 2000:
		return api.ErrFull
	case !isRight(g, t, t.Symbol):
		return api.ErrForm
	}
	return api.OK
}

// todo is a symbol that is to be replaced, and how deep it lies, or a text that is done. In a list of them the last one comes first.
type todo struct {
	text          string
	symbol, depth int
}

// wantMade makes the text of a tree from the start on, replacing the first symbol that is left again and again; next says the production of a symbol.
// With the error of too many nodes comes the symbol of the one too many.
func wantMade(g api.Grammar, next func(symbol int) (int, api.Errno)) (string, int, api.Errno) {
	var s strings.Builder
	nodes := 0
	for rest := []todo{{"", g.Start, 1}}; len(rest) > 0; {
		x := rest[len(rest)-1]
		rest = rest[:len(rest)-1]
		if x.text != "" {
			s.WriteString(x.text)
			continue
		}
		if x.depth > 200 {
			return "", 0, api.ErrDepth
		}
		p, e := next(x.symbol)
		if e != api.OK {
			return "", 0, e
		}
		if nodes++; nodes > 2000 {
			return "", x.symbol, api.ErrFull
		}
		s.WriteString(letter(x.symbol))
		if x.symbol < 16 {
			continue
		}
		s.WriteString(strconv.Itoa(p) + "(")
		rest = append(rest, todo{text: ")"})
		for _, kid := range slices.Backward(g.Prods[p].Right) {
			rest = append(rest, todo{"", kid, x.depth + 1})
		}
	}
	return s.String(), 0, api.OK
}

// wantBuild is what Build is to return, and the symbol of the node that is too many.
func wantBuild(g api.Grammar, prods []int) (string, int, api.Errno) {
	if len(prods) > 2000 {
		return "", 0, api.ErrFull
	}
	rest := prods
	text, symbol, e := wantMade(g, func(symbol int) (int, api.Errno) {
		if symbol < 16 {
			return -1, api.OK
		}
		if len(rest) == 0 {
			return 0, api.ErrShort
		}
		p := rest[0]
		rest = rest[1:]
		if p < 0 || p >= len(g.Prods) {
			return 0, api.ErrRange
		}
		if g.Prods[p].Left != symbol {
			return 0, api.ErrRule
		}
		return p, api.OK
	})
	if e == api.OK && len(rest) > 0 {
		return "", 0, api.ErrLong
	}
	return text, symbol, e
}

// chooser asks predict.Choose, but each thing once only.
type chooser struct {
	g   api.Grammar
	met map[string]answer
}

// answer is what predict.Choose says.
type answer struct {
	prod int
	err  api.Errno
}

// choosing returns a chooser for g.
func choosing(g api.Grammar) chooser { return chooser{g, map[string]answer{}} }

// choose says which production replaces a nonterminal where these terminals are still to come.
func (c chooser) choose(symbol int, rest []int) (int, api.Errno) {
	x, _ := look.Of(rest[:min(len(rest), c.g.K)]...)
	text, _ := look.Text(x)
	key := letter(symbol) + text
	if _, is := c.met[key]; !is {
		p, e := predict.Choose(c.g, symbol, x)
		c.met[key] = answer{p, e}
	}
	return c.met[key].prod, c.met[key].err
}

// of is what Of is to return for a list of terminals of the grammar, and the symbol of the node that is too many.
func (c chooser) of(symbols []int) (string, int, api.Errno) {
	if len(symbols) > 200 {
		return "", 0, api.ErrFull
	}
	rest := symbols
	text, symbol, e := wantMade(c.g, func(symbol int) (int, api.Errno) {
		if symbol >= 16 {
			return c.choose(symbol, rest)
		}
		if len(rest) == 0 {
			return 0, api.ErrShort
		}
		x := rest[0]
		rest = rest[1:]
		if x != symbol {
			return 0, api.ErrToken
		}
		return -1, api.OK
	})
	if e == api.OK && len(rest) > 0 {
		return "", 0, api.ErrExtra
	}
	return text, symbol, e
}

// wantEmpty is what Empty is to return for the nonterminals of g that are nullable: the least ones of all trees of each height, made of those of the height before.
func wantEmpty(g api.Grammar) map[int]string {
	least := map[int]string{}
	for range 12 {
		next := map[int]string{}
		for p, prod := range g.Prods {
			text, is := letter(prod.Left)+strconv.Itoa(p)+"(", true
			for _, x := range prod.Right {
				is = is && least[x] != ""
				text += least[x]
			}
			old := next[prod.Left]
			if is && (old == "" || strings.Count(text, "(") < strings.Count(old, "(")) {
				next[prod.Left] = text + ")"
			}
		}
		least = next
	}
	return least
}

// wantEvents is what Events is to return for the tree of a text: each letter and each parenthesis is an event.
func wantEvents(text string, tokens []api.Token, record, end int) []api.Event {
	at := func() int { return append(slices.Clone(tokens), api.Token{At: end})[0].At }
	l := []api.Event{{Kind: api.EvRecord, Record: record, At: at()}}
	var open []api.Event
	for len(text) > 0 {
		x := symbol(text[0])
		switch {
		case text[0] == ')':
			last := open[len(open)-1]
			l = append(l, api.Event{Kind: api.EvExit, Symbol: last.Symbol, Prod: last.Prod})
			open = open[:len(open)-1]
		case x < 16:
			l = append(l, api.Event{Kind: api.EvToken, Symbol: x, Text: tokens[0].Text, At: tokens[0].At})
			tokens = tokens[1:]
		default:
			var number string
			number, text, _ = strings.Cut(text[1:], "(")
			p, _ := strconv.Atoi(number)
			l = append(l, api.Event{Kind: api.EvEnter, Symbol: x, Prod: p, At: at()})
			open = append(open, l[len(l)-1])
			continue
		}
		text = text[1:]
	}
	return append(l, api.Event{Kind: api.EvEnd, Record: record, At: end})
}

// numbers returns the productions in the text of a tree.
func numbers(text string) []int {
	var l []int
	for _, word := range strings.FieldsFunc(text, func(r rune) bool { return r < '0' || r > '9' }) {
		n, _ := strconv.Atoi(word)
		l = append(l, n)
	}
	return l
}

// terminals returns the terminals in the text of a tree.
func terminals(text string) []int {
	var l []int
	for i := range len(text) {
		if text[i] >= 'a' && text[i] <= 'h' {
			l = append(l, symbol(text[i]))
		}
	}
	return l
}

// placed returns tokens with these symbols, with texts, one behind the other.
func placed(symbols []int, at int) []api.Token {
	var l []api.Token
	for i, x := range symbols {
		l = append(l, api.Token{Symbol: x, Text: strings.Repeat(letter(x), i%5), At: at})
		at += 2 + i%5
	}
	return l
}

// isTree demands that all functions of trees say of t, which is right, what its text says.
func isTree(t *testing.T, g api.Grammar, x api.Tree) {
	t.Helper()
	text := show(x)
	if e := tree.Check(g, x); e != api.OK {
		t.Errorf("Check(%s, %s): %v", written(g), shortened(text), e)
	}
	if l, e := tree.Yield(g, x); !slices.Equal(l, terminals(text)) || e != api.OK {
		t.Errorf("Yield(%s, %s): %v, %v", written(g), shortened(text), l, e)
	}
	if l, e := tree.Prods(g, x); !slices.Equal(l, numbers(text)) || e != api.OK {
		t.Errorf("Prods(%s, %s): %v, %v", written(g), shortened(text), l, e)
	}
	if n, d, e := tree.Size(g, x); n != size(x) || d != deep(x) || e != api.OK {
		t.Errorf("Size(%s, %s): %d, %d, %v", written(g), shortened(text), n, d, e)
	}
	tokens := placed(terminals(text), 17)
	isEvents(t, g, x, tokens, 5, 99999, wantEvents(text, tokens, 5, 99999), api.OK)
}

// isRefused demands that all functions of trees return err for x, and nothing else.
func isRefused(t *testing.T, g api.Grammar, x api.Tree, err api.Errno) {
	t.Helper()
	if e := tree.Check(g, x); e != err {
		t.Errorf("Check(%s): %v, not %v", written(g), e, err)
	}
	if l, e := tree.Yield(g, x); len(l) > 0 || e != err {
		t.Errorf("Yield(%s): %v, %v, not %v", written(g), l, e, err)
	}
	if l, e := tree.Prods(g, x); len(l) > 0 || e != err {
		t.Errorf("Prods(%s): %v, %v, not %v", written(g), l, e, err)
	}
	if n, d, e := tree.Size(g, x); n != 0 || d != 0 || e != err {
		t.Errorf("Size(%s): %d, %d, %v, not %v", written(g), n, d, e, err)
	}
	isEvents(t, g, x, nil, 0, 0, nil, err)
	isEvents(t, g, x, []api.Token{{}}, 0, 0, nil, err)
	isEvents(t, g, x, []api.Token{{Symbol: 99}}, -1, -1, nil, err)
}

// isChecked demands of all functions of trees what wantCheck says.
func isChecked(t *testing.T, g api.Grammar, x api.Tree) api.Errno {
	t.Helper()
	e := wantCheck(g, x)
	if e == api.OK {
		isTree(t, g, x)
	} else {
		isRefused(t, g, x, e)
	}
	return e
}

// isEvents demands that Events says this.
func isEvents(t *testing.T, g api.Grammar, x api.Tree, tokens []api.Token, record, end int, want []api.Event, err api.Errno) {
	t.Helper()
	if l, e := tree.Events(g, x, tokens, record, end); !slices.Equal(l, want) || e != err {
		t.Errorf("Events(%s, %d tokens, %d, %d): %d %v, %v, not %d %v, %v", written(g), len(tokens), record, end, len(l), l[:min(len(l), 9)], e, len(want), want[:min(len(want), 9)], err)
	}
}

// isBuild demands that Build says this.
func isBuild(t *testing.T, g api.Grammar, prods []int, want string, err api.Errno) {
	t.Helper()
	if x, e := tree.Build(g, prods); !isShown(x, want) || e != err {
		t.Errorf("Build(%s, %d %v): %s, %v, not %s, %v", written(g), len(prods), prods[:min(len(prods), 30)], shortened(show(x)), e, shortened(want), err)
	}
}

// isOf demands that Of says this.
func isOf(t *testing.T, g api.Grammar, symbols []int, want string, err api.Errno) {
	t.Helper()
	if x, e := tree.Of(g, symbols); !isShown(x, want) || e != err {
		t.Errorf("Of(%s, %d %v): %s, %v, not %s, %v", written(g), len(symbols), symbols[:min(len(symbols), 30)], shortened(show(x)), e, shortened(want), err)
	}
}

// isEmpty demands that Empty says this.
func isEmpty(t *testing.T, g api.Grammar, symbol int, want string, err api.Errno) {
	t.Helper()
	if x, e := tree.Empty(g, symbol); !isShown(x, want) || e != err {
		t.Errorf("Empty(%s, %d): %s, %v, not %s, %v", written(g), symbol, shortened(show(x)), e, shortened(want), err)
	}
}

// isShown reports whether x is the tree of a text, or no tree at all if there is no text.
func isShown(x api.Tree, text string) bool {
	if text == "" {
		return x.Symbol == 0 && x.Prod == 0 && len(x.Kids) == 0
	}
	return show(x) == text
}

// isSame demands that Same says this, in both directions.
func isSame(t *testing.T, a, b api.Tree, want bool) {
	t.Helper()
	if is := tree.Same(a, b); is != want {
		t.Errorf("Same: %v, not %v", is, want)
	}
	if is := tree.Same(b, a); is != want {
		t.Errorf("Same, turned round: %v, not %v", is, want)
	}
}

// The rows of the examples.
func TestExamples(t *testing.T) {
	g := example()
	isOf(t, g, []int{0, 1}, "S0(aS1(T3())b)", api.OK)
	x := planted("S0(aS1(T3())b)")
	if l, e := tree.Prods(g, x); !slices.Equal(l, []int{0, 1, 3}) || e != api.OK {
		t.Error(l, e)
	}
	if n, d, e := tree.Size(g, x); n != 5 || d != 3 || e != api.OK {
		t.Error(n, d, e)
	}
	isOf(t, g, []int{2}, "S1(T2(c))", api.OK)
	isOf(t, g, []int{0}, "", api.ErrRule)
	isOf(t, g, []int{1, 0}, "", api.ErrRule)
	isOf(t, g, []int{0, 1, 1, 1}, "", api.ErrExtra)
	isOf(t, g, []int{3}, "", api.ErrSymbol)
	isBuild(t, g, []int{0, 1, 3}, "S0(aS1(T3())b)", api.OK)
	isBuild(t, g, []int{0, 1}, "", api.ErrShort)
	isBuild(t, g, []int{1, 3, 3}, "", api.ErrLong)
	isBuild(t, g, []int{2}, "", api.ErrRule)
	isEmpty(t, g, 16, "S1(T3())", api.OK)
	isEmpty(t, g, 17, "T3()", api.OK)
	isEvents(t, g, x, []api.Token{{Symbol: 0, At: 0}, {Symbol: 1, At: 2}}, 7, 4, []api.Event{
		{Kind: 1, Record: 7}, {Kind: 2, Symbol: 16}, {Kind: 3}, {Kind: 2, Symbol: 16, Prod: 1, At: 2}, {Kind: 2, Symbol: 17, Prod: 3, At: 2}, {Kind: 4, Symbol: 17, Prod: 3}, {Kind: 4, Symbol: 16, Prod: 1},
		{Kind: 3, Symbol: 1, At: 2}, {Kind: 4, Symbol: 16}, {Kind: 6, Record: 7, At: 4},
	}, api.OK)
	isRefused(t, g, node(0, 0), api.ErrForm)
	isRefused(t, g, node(16, 0), api.ErrForm)
}

// alone demands that all functions return err for g, and nothing else, whatever they are asked for.
func alone(t *testing.T, g api.Grammar, err api.Errno) {
	t.Helper()
	deep := leaf(0)
	for range 300 {
		deep = node(16, 0, deep)
	}
	for _, x := range []api.Tree{{}, leaf(0), planted("S1(T3())"), node(99, 99), deep, node(16, 0, make([]api.Tree, 3000)...)} {
		isRefused(t, g, x, err)
	}
	for _, l := range [][]int{nil, {0}, {1, 3}, {99}, {-1}, make([]int, 201), make([]int, 2001)} {
		isBuild(t, g, l, "", err)
		isOf(t, g, l, "", err)
	}
	for _, x := range []int{-1, 0, 15, 16, 17, 18, 99} {
		isEmpty(t, g, x, "", err)
	}
}

// P20.1, P20.2, P20.3, P20.4, R1, R3: all functions return the error of grammar.Check first, and alone.
func TestErrorsOfGrammars(t *testing.T) {
	for _, c := range []struct {
		change func(g *api.Grammar)
		err    api.Errno
	}{
		{func(g *api.Grammar) { g.K = 0 }, api.ErrRange},
		{func(g *api.Grammar) { g.K = 5 }, api.ErrRange},
		{func(g *api.Grammar) { *g = api.Grammar{} }, api.ErrRange},
		{func(g *api.Grammar) { g.Prods[0].Right = make([]int, 7) }, api.ErrFull},
		{func(g *api.Grammar) { g.Prods = slices.Repeat(g.Prods, 7) }, api.ErrFull},
		{func(g *api.Grammar) { g.Tokens = nil }, api.ErrShort},
		{func(g *api.Grammar) { g.Names = nil }, api.ErrShort},
		{func(g *api.Grammar) { g.Sep = "S" }, api.ErrName},
		{func(g *api.Grammar) { g.Tokens[1] = "a" }, api.ErrExists},
		{func(g *api.Grammar) { g.Start = 18 }, api.ErrSymbol},
		{func(g *api.Grammar) { g.Prods[0].Right[0] = 3 }, api.ErrSymbol},
		{func(g *api.Grammar) { g.Prods[0].Left = 99 }, api.ErrSymbol},
		{func(g *api.Grammar) { slices.Reverse(g.Prods) }, api.ErrOrder},
		{func(g *api.Grammar) { g.Prods = g.Prods[:2] }, api.ErrMissing},
	} {
		g := clone(example())
		c.change(&g)
		if e := grammar.Check(g); e != c.err {
			t.Fatalf("%s: %v", written(g), e)
		}
		alone(t, g, c.err)
	}
}

// P20.1: for each number of terminals and nonterminals, each symbol and each production of a tree without kids.
func TestNodesAlone(t *testing.T) {
	for terms := 1; terms <= 8; terms++ {
		for nonterms := 1; nonterms <= 8; nonterms++ {
			g := rules(1, terms, strings.Join(strings.Split("S=| T=| U=| V=| W=| X=| Y=| Z=|", " ")[:nonterms], " "))
			for x := -20; x < 40; x++ {
				for p := -3; p < 20; p++ {
					want := api.ErrForm
					if x >= 0 && x < terms && p == -1 || x >= 16 && x < 16+nonterms && p/2 == x-16 && p >= 0 {
						want = api.OK
					}
					if e := tree.Check(g, node(x, p)); e != want {
						t.Errorf("Check(%s, %d %d): %v, not %v", written(g), x, p, e, want)
					}
				}
			}
			for _, x := range strange {
				isRefused(t, g, node(x, -1), api.ErrForm)
				isRefused(t, g, node(x, 0), api.ErrForm)
				isRefused(t, g, node(0, x), api.ErrForm)
				isRefused(t, g, node(16, x), api.ErrForm)
			}
		}
	}
}

// P20.1: all trees with at most two kids that have none, of some symbols and productions.
func TestAllSmallTrees(t *testing.T) {
	g := rules(1, 2, "S=a|aS|TT| T=S|b|ab|")
	var nodes []api.Tree
	for _, x := range []int{-1, 0, 1, 2, 16, 17} {
		for p := -1; p < 8; p++ {
			nodes = append(nodes, node(x, p))
		}
	}
	var lists [][]api.Tree
	for _, x := range nodes {
		lists = append(lists, []api.Tree{x})
		for _, y := range nodes {
			lists = append(lists, []api.Tree{x, y})
		}
	}
	right := 0
	for _, root := range nodes {
		for _, kids := range lists {
			x := node(root.Symbol, root.Prod, kids...)
			e := wantCheck(g, x)
			if is := tree.Check(g, x); is != e {
				t.Fatalf("Check(%s): %v, not %v", show(x), is, e)
			}
			if e == api.OK {
				isTree(t, g, x)
				right++
			}
		}
	}
	// S=a, S=aS, S=TT, T=S, T=b, T=ab, with the kids S= and T=.
	if right != 6 {
		t.Errorf("%d right trees", right)
	}
}

// heights returns the least heights of right trees of the nonterminals of g that have one.
func heights(g api.Grammar) map[int]int {
	h := map[int]int{}
	for i := range g.Tokens {
		h[i] = 1
	}
	for height := 2; height < 12; height++ {
		var found []int
		for _, p := range g.Prods {
			if _, is := h[p.Left]; !is && !slices.ContainsFunc(p.Right, func(x int) bool { return h[x] == 0 }) {
				found = append(found, p.Left)
			}
		}
		for _, x := range found {
			h[x] = height
		}
	}
	return h
}

// grower makes right trees of g at random; h are the least heights of its symbols, and left is how many nodes may still have any production.
type grower struct {
	r    *rand.Rand
	g    api.Grammar
	h    map[int]int
	left int
}

// anyTree returns a right tree of g with this symbol, which has one, at random.
func anyTree(r *rand.Rand, g api.Grammar, symbol, depth int) api.Tree {
	x := grower{r, g, heights(g), 1 + r.Intn(400)}
	return x.grow(symbol, depth)
}

// height returns the least height of a tree with the production p at its root.
func (x *grower) height(p int) int {
	most := 1
	for _, kid := range x.g.Prods[p].Right {
		if x.h[kid] == 0 {
			return math.MaxInt
		}
		most = max(most, 1+x.h[kid])
	}
	return most
}

// grow returns a right tree with this symbol; with no depth or no nodes left, it takes the shortest way.
func (x *grower) grow(symbol, depth int) api.Tree {
	if symbol < 16 {
		return leaf(symbol)
	}
	l, _ := grammar.Prods(x.g, symbol)
	p := slices.MaxFunc([]int{l[x.r.Intn(len(l))], l[x.r.Intn(len(l))]}, func(p, q int) int { return cmp.Compare(len(x.g.Prods[p].Right), len(x.g.Prods[q].Right)) })
	if x.left--; depth <= 0 || x.left < 0 || x.height(p) == math.MaxInt {
		p = slices.MinFunc(l, func(p, q int) int { return cmp.Compare(x.height(p), x.height(q)) })
	}
	t := node(symbol, p)
	for _, kid := range x.g.Prods[p].Right {
		t.Kids = append(t.Kids, x.grow(kid, depth-1))
	}
	return t
}

// changed returns a tree with another node in some place.
func changed(r *rand.Rand, g api.Grammar, t api.Tree) api.Tree {
	t.Kids = slices.Clone(t.Kids)
	if len(t.Kids) > 0 && r.Intn(4) > 0 {
		i := r.Intn(len(t.Kids))
		t.Kids[i] = changed(r, g, t.Kids[i])
		return t
	}
	switch r.Intn(8) {
	case 0:
		t.Symbol = r.Intn(len(g.Tokens))
	case 1:
		t.Symbol = 16 + r.Intn(len(g.Names))
	case 2:
		t.Symbol = append(strange, -1, len(g.Tokens), 16+len(g.Names))[r.Intn(len(strange)+3)]
	case 3, 4:
		t.Prod = r.Intn(len(g.Prods)+2) - 1
	case 5:
		t.Kids = append(t.Kids, leaf(r.Intn(len(g.Tokens))))
	case 6:
		t.Kids = slices.Insert(t.Kids, r.Intn(len(t.Kids)+1), node(16, r.Intn(len(g.Prods))))
	case 7:
		if len(t.Kids) > 0 {
			i := r.Intn(len(t.Kids))
			t.Kids = slices.Delete(t.Kids, i, i+1)
		}
	}
	return t
}

// forest calls f with many right trees at random, each of at most most nodes, and its grammar.
func forest(seed int64, many, depth, most int, f func(r *rand.Rand, g api.Grammar, x api.Tree)) {
	r := rand.New(rand.NewSource(seed))
	for _, g := range grammars(seed, many, 4) {
		h := heights(g)
		for range 8 {
			x := g.Start
			if r.Intn(2) == 0 {
				x = 16 + r.Intn(len(g.Names))
			}
			if h[x] == 0 {
				continue
			}
			if t := anyTree(r, g, x, r.Intn(depth+1)); size(t) <= most {
				f(r, g, t)
			}
		}
	}
}

// P20.1: trees at random, right ones and such with a change, held against the words of the chapter.
func TestTreesAtRandom(t *testing.T) {
	count, sizes, depths := map[api.Errno]int{}, map[int]int{}, map[int]int{}
	forest(201, 500, 16, 2500, func(r *rand.Rand, g api.Grammar, x api.Tree) {
		count[isChecked(t, g, x)]++
		sizes[size(x)]++
		depths[deep(x)]++
		for range 6 {
			count[isChecked(t, g, changed(r, g, x))]++
		}
	})
	if count[api.OK] < 2000 || count[api.ErrForm] < 5000 || len(sizes) < 100 || len(depths) < 15 {
		t.Errorf("the trees are too much alike: %v, %d, %d", count, len(sizes), len(depths))
	}
}

// chain returns the tree with n nodes S one below the other, which S=aS and then S= make, so that its depth is n.
func chain(n int) api.Tree {
	t := node(16, 1)
	for range n - 1 {
		t = node(16, 0, leaf(0), t)
	}
	return t
}

// P20.1, R1: a tree may be 200 deep, and this is asked before how many nodes it has, and before whether it is right.
func TestDepths(t *testing.T) {
	g := rules(1, 1, "S=aS|")
	for n := 1; n < 210; n++ {
		if e := isChecked(t, g, chain(n)); (e == api.OK) != (n <= 200) {
			t.Error(n, e)
		}
		wide := chain(n)
		wide.Kids = append(wide.Kids, make([]api.Tree, 3000)...)
		last := chain(n)
		last.Kids = append(last.Kids, node(16, 7, chain(n-n/3)))
		for _, wrong := range []api.Tree{wide, last, node(16, 9, chain(n)), node(-1, -1, leaf(0), chain(n), leaf(0))} {
			isChecked(t, g, wrong)
		}
	}
	isRefused(t, g, chain(5000), api.ErrDepth)
	isRefused(t, g, chain(60000), api.ErrDepth)
	// The deepest node is a terminal, without a production, or with one that no grammar has.
	for n := 198; n < 203; n++ {
		for _, last := range []api.Tree{leaf(0), {}, node(16, 1), node(99, 99)} {
			x := last
			for range n - 1 {
				x = node(16, 0, leaf(0), x)
			}
			isChecked(t, g, x)
		}
	}
}

// bush returns a right tree of S=SSSSSS|S|a| with so many nodes, which is as shallow as it can be.
func bush(nodes int) api.Tree {
	if nodes == 1 {
		return node(16, 3)
	}
	if nodes < 7 {
		return node(16, 1, bush(nodes-1))
	}
	t, rest := node(16, 0), nodes-1
	for i := 6; i > 0; i-- {
		t.Kids = append(t.Kids, bush(rest/i))
		rest -= rest / i
	}
	return t
}

// P20.1, R1: a tree may have 2,000 nodes, and this is asked before whether it is right.
func TestNodes(t *testing.T) {
	g := rules(1, 1, "S=SSSSSS|S|a|")
	for _, n := range []int{1, 2, 7, 8, 100, 1998, 1999, 2000, 2001, 2002, 2007, 5000} {
		x := bush(n)
		if e := isChecked(t, g, x); size(x) != n || (e == api.OK) != (n <= 2000) {
			t.Error(n, size(x), e)
		}
		// The same number of nodes, with one that is wrong in the first place, in the last one, or all of them in a row.
		wrong := node(16, 2, x.Kids...)
		isChecked(t, g, wrong)
		isChecked(t, g, node(16, 1, x, node(16, 9)))
		isChecked(t, g, node(-1, -1, make([]api.Tree, n-1)...))
	}
	isRefused(t, g, node(16, 1, make([]api.Tree, 1<<20)...), api.ErrFull)
}

// P1, R7: lists of kids that share memory make more nodes than anybody can count.
func TestGreatTrees(t *testing.T) {
	g := rules(1, 1, "S=SS|")
	for n := 2; n < 300; n++ {
		x, y := node(16, 1), node(16, 1)
		for range n - 1 {
			x, y = node(16, 0, x, x), node(16, 0, y, y)
		}
		switch {
		case n > 200:
			isRefused(t, g, x, api.ErrDepth)
		case n > 10:
			isRefused(t, g, x, api.ErrFull)
		default:
			isTree(t, g, x)
		}
		isSame(t, x, y, true)
		isSame(t, x, node(16, 0, x, y), false)
		isSame(t, x, node(16, 0, x.Kids[0], y.Kids[1]), true)
		isSame(t, node(16, 0, x, x), node(16, 0, y, y.Kids[1]), false)
	}
}

// P1: kids that are their own kids make a tree without an end, which is deeper than any number.
func TestTreesWithoutEnd(t *testing.T) {
	g := rules(1, 1, "S=SS|")
	var loops []api.Tree
	for n := 1; n < 6; n++ {
		ring := make([][2]api.Tree, n)
		for i := range ring {
			ring[i] = [2]api.Tree{node(16, 1), node(16, 0, ring[(i+1)%n][:]...)}
		}
		isRefused(t, g, ring[0][1], api.ErrDepth)
		isRefused(t, g, node(16, 0, ring[0][0], ring[0][1]), api.ErrDepth)
		loops = append(loops, ring[0][1])
	}
	for _, x := range loops {
		for _, y := range loops {
			isSame(t, x, y, true)
			isSame(t, x, node(16, 0, y.Kids[0], node(16, 0, x.Kids...)), true)
			isSame(t, x, node(16, 0, y.Kids[0], node(16, 1, x.Kids...)), false)
		}
		isSame(t, x, node(16, 0, node(16, 1), node(16, 0, node(16, 1), node(16, 1))), false)
	}
}

// P20.1, P1: lists of kids that lie in the same memory: of different lengths, and in several levels.
func TestListsInOneMemory(t *testing.T) {
	g := rules(1, 1, "S=SS|S|")
	room := []api.Tree{node(16, 2), node(16, 1, node(16, 1, node(16, 2))), node(16, 7, node(16, 2))}
	var all []api.Tree
	for _, x := range []api.Tree{node(16, 2), node(16, 1, room[0]), node(16, 1, room[:1]...), node(16, 0, room[:2]...), node(16, 0, room[1:]...), node(16, 0, room...), node(16, 1, room[1:2]...)} {
		for _, y := range slices.Clone(append(all, x)) {
			all = append(all, node(16, 0, x, y), node(16, 0, y, x))
		}
		all = all[:min(len(all), 40)]
	}
	for _, x := range all {
		isChecked(t, g, x)
		for _, y := range all {
			isSame(t, x, y, show(x) == show(y))
		}
	}
	// Lists that begin in the same places are equal as far as the shorter ones go, and not behind that.
	other := append(slices.Clone(room[:2]), node(16, 8, node(16, 2)))
	for n := range 4 {
		for m := range 4 {
			isSame(t, node(16, 0, node(16, 3, room[:n]...), node(16, 3, room[:m]...)), node(16, 0, node(16, 3, other[:n]...), node(16, 3, other[:m]...)), n < 3 && m < 3)
		}
	}
	// The longer one of two lists leads deeper, or the one that is met again further down.
	for n := 190; n < 210; n++ {
		deep := []api.Tree{node(16, 2), node(16, 1, line(n))}
		for _, kids := range [][]api.Tree{
			{node(16, 1, deep[:1]...), node(16, 0, deep...)}, {node(16, 0, deep...), node(16, 1, deep[:1]...)}, {node(16, 0, deep...), node(16, 1, node(16, 1, node(16, 0, deep...)))},
			{node(16, 1, deep[:1]...), node(16, 1, deep[:1]...)},
		} {
			isChecked(t, g, node(16, 0, kids...))
		}
	}
}

// line returns a right tree of S=SS|S| of depth n, with one node in each level.
func line(n int) api.Tree {
	t := node(16, 2)
	for range n - 1 {
		t = node(16, 1, t)
	}
	return t
}

// P20.1: which trees are the same, right ones and others.
func TestSame(t *testing.T) {
	isSame(t, api.Tree{}, api.Tree{}, true)
	isSame(t, api.Tree{Kids: []api.Tree{}}, api.Tree{}, true)
	isSame(t, node(5, 6, leaf(0)), node(5, 6, api.Tree{Prod: -1, Kids: []api.Tree{}}), true)
	isSame(t, node(5, 6, leaf(0)), node(5, 6, leaf(0), leaf(0)), false)
	isSame(t, node(5, 6, leaf(0)), node(5, 6), false)
	isSame(t, node(5, 6, leaf(0), leaf(1)), node(5, 6, leaf(1), leaf(0)), false)
	isSame(t, node(5, 6, node(5, 6), leaf(1)), node(5, 6, leaf(1), node(5, 6)), false)
	isSame(t, node(5, 6, node(5, 6, leaf(1)), leaf(1)), node(5, 6, node(5, 6), leaf(1), leaf(1)), false)
	for _, x := range append(strange, -1, 0, 16) {
		for _, y := range append(strange, -1, 0, 16) {
			isSame(t, node(x, 1), node(y, 1), x == y)
			isSame(t, node(1, x), node(1, y), x == y)
			isSame(t, node(1, 1, node(0, 0), node(x, y)), node(1, 1, node(0, 0), node(y, x)), x == y)
		}
	}
	count := map[bool]int{}
	forest(202, 300, 6, 300, func(r *rand.Rand, g api.Grammar, x api.Tree) {
		isSame(t, x, planted(show(x)), true)
		y, z := changed(r, g, x), changed(r, g, x)
		for _, other := range []api.Tree{x, y} {
			is := show(other) == show(z)
			isSame(t, other, z, is)
			count[is]++
		}
	})
	if count[true] < 300 || count[false] < 1500 {
		t.Errorf("the trees are too much alike: %v", count)
	}
	isSame(t, chain(300000), chain(300000), true)
	isSame(t, chain(300000), chain(300001), false)
}

// anyProds returns a list of productions that goes right for a while: prods are those before, which lead to forms, and steps are how many to go.
func anyProds(r *rand.Rand, g api.Grammar, prods []int, steps int) []int {
	rest := []int{g.Start}
	l := slices.Clone(prods)
	for i := 0; i < len(prods)+steps; i++ {
		for len(rest) > 0 && rest[0] < 16 {
			rest = rest[1:]
		}
		if len(rest) == 0 {
			break
		}
		p := r.Intn(len(g.Prods))
		if own, _ := grammar.Prods(g, rest[0]); r.Intn(40) > 0 {
			p = own[r.Intn(len(own))]
		}
		if i < len(prods) {
			p = prods[i]
		} else {
			l = append(l, p)
		}
		rest = slices.Concat(g.Prods[p].Right, rest[1:])
	}
	switch r.Intn(12) {
	case 0:
		l = append(l, r.Intn(len(g.Prods)))
	case 1:
		l = append(l, append(strange, -1, len(g.Prods))[r.Intn(len(strange)+2)])
	case 2:
		if len(l) > 0 {
			l[r.Intn(len(l))] = append(strange, -1, len(g.Prods))[r.Intn(len(strange)+2)]
		}
	}
	return l
}

// P20.2: the trees of lists of productions, held against texts in which one symbol after the other is replaced.
func TestBuilds(t *testing.T) {
	r := rand.New(rand.NewSource(203))
	count := map[api.Errno]int{}
	for _, g := range grammars(203, 400, 4) {
		for range 20 {
			prods := anyProds(r, g, nil, r.Intn(60))
			want, _, e := wantBuild(g, prods)
			isBuild(t, g, prods, want, e)
			count[e]++
		}
		for _, prods := range [][]int{nil, {-1}, {len(g.Prods)}, {0}} {
			want, _, e := wantBuild(g, prods)
			isBuild(t, g, prods, want, e)
		}
	}
	if len(count) != 5 || count[api.OK] < 1000 || count[api.ErrShort] < 500 || count[api.ErrRange] < 500 || count[api.ErrRule] < 300 || count[api.ErrLong] < 100 {
		t.Errorf("the lists are too much alike: %v", count)
	}
}

// P20.2, R1: lists have at most 2,000 productions, and this is asked before which ones they are.
func TestLengthsOfLists(t *testing.T) {
	g := rules(1, 1, "S=SSSSSS|")
	for _, n := range []int{0, 1, 1999, 2000, 2001, 2002, 1 << 20} {
		for _, p := range []int{0, 1, -1, 9} {
			l := slices.Repeat([]int{p}, n)
			want, _, e := wantBuild(g, l)
			isBuild(t, g, l, want, e)
		}
	}
	// A tree of depth 200, in which five of six kids are empty.
	isBuild(t, g, append(make([]int, 199), slices.Repeat([]int{1}, 1+5*199)...), strings.Repeat("S0(", 199)+"S1()"+strings.Repeat(strings.Repeat("S1()", 5)+")", 199), api.OK)
	flat := rules(1, 1, "S=TTTTTT T=UUUUUU U=VVVVVV V=WWWWWW W=")
	isBuild(t, flat, make([]int, 2000), "", api.ErrRule)
	count := map[string]int{}
	for _, text := range []string{"S=ST|T T=UUUUUU|a| U=VVVVVV V=|a", "S=TS|Ta| T=UUUUUU|aaaaaa|a|aa U=VVVVV V=aaaaaa|"} {
		for start := range 60 {
			endings(t, rules(1, 1, text), int64(start), count)
		}
	}
	if count["full S"] < 5 || count["full V"] < 5 || count["full a"] < 20 || count["short"] < 20 || count["range"] < 20 || count["rule"] < 20 || count["ok"] < 5 {
		t.Errorf("the lists are too much alike: %v", count)
	}
}

// endings goes on with lists at random until there are about 2,000 nodes, and demands of Build what the second way says of what comes then.
func endings(t *testing.T, g api.Grammar, seed int64, count map[string]int) {
	t.Helper()
	r := rand.New(rand.NewSource(seed))
	rest, nodes := []int{g.Start}, 0
	var prods []int
	for nodes < 1970 {
		if rest[0] < 16 {
			rest, nodes = rest[1:], nodes+1
			continue
		}
		own, _ := grammar.Prods(g, rest[0])
		p := own[r.Intn(len(own))]
		// The last nonterminal goes on.
		if len(rest) == 1 || slices.Max(rest[1:]) < 16 || rest[0] == g.Start {
			p = own[0]
		}
		rest, nodes, prods = slices.Concat(g.Prods[p].Right, rest[1:]), nodes+1, append(prods, p)
		if len(prods) > 1900 {
			return
		}
	}
	for n := range 40 {
		l := anyProds(r, g, prods, n)
		want, symbol, e := wantBuild(g, l)
		isBuild(t, g, l, want, e)
		name := e.Error()
		if symbol != 0 || e == api.ErrFull {
			name += " " + letter(symbol)
		}
		count[name]++
	}
}

// P20.2, R1: nodes may lie 200 deep, and this is asked first for each node.
func TestDepthsOfLists(t *testing.T) {
	g := rules(1, 2, "S=aS|Sa|S|T|ab| T=bS|a|")
	count := map[api.Errno]int{}
	r := rand.New(rand.NewSource(204))
	for n := 190; n < 203; n++ {
		for range 60 {
			prods := anyProds(r, g, slices.Repeat([]int{r.Intn(3)}, n), r.Intn(14))
			want, _, e := wantBuild(g, prods)
			isBuild(t, g, prods, want, e)
			count[e]++
		}
		for _, last := range [][]int{nil, {5}, {4}, {-1}, {99}, {6}, {3, 8}, {3, 7}, {3, 6}, {3}, {5, 5}, {4, 4}} {
			for p := range 3 {
				l := append(slices.Repeat([]int{p}, n), last...)
				want, _, e := wantBuild(g, l)
				isBuild(t, g, l, want, e)
				count[e]++
			}
		}
	}
	if len(count) != 6 || count[api.OK] < 50 || count[api.ErrDepth] < 200 || count[api.ErrShort] < 50 || count[api.ErrRange] < 50 || count[api.ErrRule] < 30 || count[api.ErrLong] < 20 {
		t.Errorf("the lists are too much alike: %v", count)
	}
}

// P20.2: each number that is a production, or is none, in the first place and behind others.
func TestNumbersOfLists(t *testing.T) {
	g := rules(1, 2, "S=aST|b T=b|S")
	for _, x := range append(strange, -1, 0, 1, 2, 3, 4, 5, 16, 17) {
		for _, l := range [][]int{{x}, {x, 1}, {0, x}, {0, 1, x}, {0, 1, 2, x}, {0, 1, x, 1}} {
			want, _, e := wantBuild(g, l)
			isBuild(t, g, l, want, e)
		}
	}
	// The start is not the first nonterminal.
	g.Start = 17
	isBuild(t, g, []int{2}, "T2(b)", api.OK)
	isBuild(t, g, []int{3, 1}, "T3(S1(b))", api.OK)
	isBuild(t, g, []int{1}, "", api.ErrRule)
}

// universe returns all lists of at most most of so many terminals.
func universe(terms, most int) [][]int {
	l := [][]int{nil}
	for last := l; len(last[0]) < most; {
		var longer [][]int
		for _, s := range last {
			for i := range terms {
				longer = append(longer, append(slices.Clone(s), i))
			}
		}
		l, last = append(l, longer...), longer
	}
	return l
}

// P20.3: the trees of lists of terminals, held against texts in which one symbol after the other is replaced, as predict.Choose says.
func TestChosenTrees(t *testing.T) {
	count := map[api.Errno]int{}
	mosts := []int{0, 9, 5, 4, 3, 2, 2, 2, 2}
	for _, g := range grammars(205, 300, 4) {
		c := choosing(g)
		for _, l := range universe(len(g.Tokens), mosts[len(g.Tokens)]) {
			want, _, e := c.of(l)
			isOf(t, g, l, want, e)
			count[e]++
		}
	}
	for _, e := range []api.Errno{api.OK, api.ErrRule, api.ErrConflict, api.ErrShort, api.ErrToken, api.ErrExtra} {
		if count[e] < 30 {
			t.Errorf("the lists are too much alike: %v", count)
		}
	}
}

// P20.3: long sentences, and such with a terminal more, less, or another one.
func TestLongLists(t *testing.T) {
	count := map[api.Errno]int{}
	var c chooser
	forest(206, 150, 12, 1500, func(r *rand.Rand, g api.Grammar, x api.Tree) {
		if c.g.Names == nil || !grammar.Same(c.g, g) {
			c = choosing(g)
		}
		l := terminals(show(x))
		for range 4 {
			want, _, e := c.of(l)
			isOf(t, g, l, want, e)
			count[e]++
			if i := r.Intn(len(l) + 1); len(l) > 0 && i < len(l) {
				l[i] = r.Intn(len(g.Tokens))
				l = slices.Delete(l, i, i+r.Intn(2))
			} else {
				l = append(l, r.Intn(len(g.Tokens)))
			}
		}
	})
	if count[api.OK] < 100 || count[api.ErrRule] < 200 || count[api.ErrExtra] < 50 {
		t.Errorf("the lists are too much alike: %v", count)
	}
}

// P20.3: where another terminal is next, and where the list is used up.
func TestTerminalsThatMustStand(t *testing.T) {
	g := rules(1, 3, "S=abc|bT|c T=Sab|a")
	isOf(t, g, form("abc"), "S0(abc)", api.OK)
	isOf(t, g, form("abb"), "", api.ErrToken)
	isOf(t, g, form("aabc"), "", api.ErrToken)
	isOf(t, g, form("ab"), "", api.ErrShort)
	isOf(t, g, form("abca"), "", api.ErrExtra)
	isOf(t, g, nil, "", api.ErrRule)
	isOf(t, g, form("bca"), "", api.ErrShort)
	isOf(t, g, form("bcac"), "", api.ErrToken)
	isOf(t, g, form("bcab"), "S1(bT3(S2(c)ab))", api.OK)
	isOf(t, g, form("b"), "", api.ErrRule)
	isOf(t, g, form("ba"), "", api.ErrConflict)
	isOf(t, g, form("bcabb"), "", api.ErrExtra)
}

// P20.3, R1: lists have at most 200 terminals, and this is asked before which ones they are.
func TestLengthsOfStrings(t *testing.T) {
	g := rules(1, 2, "S=aaaaaT T=aaaaaS|b|")
	for n := range 205 {
		l := make([]int, n)
		want, _, e := choosing(g).of(l)
		isOf(t, g, l, want, e)
		if n > 0 {
			for _, x := range append(strange, -1, 2, 7, 15, 16, 17) {
				err := api.ErrSymbol
				if n > 200 {
					err = api.ErrFull
				}
				l[n-1] = x
				isOf(t, g, l, "", err)
				l[n-1] = 0
				l[0] = x
				isOf(t, g, l, "", err)
				l[0] = 0
			}
		}
	}
	isOf(t, g, make([]int, 1<<20), "", api.ErrFull)
	for terms := 1; terms <= 8; terms++ {
		h := rules(1, terms, "S="+strings.Join(strings.Split("abcdefgh"[:terms], ""), "|"))
		for x := -20; x < 40; x++ {
			if x >= 0 && x < terms {
				isOf(t, h, []int{x}, "S"+strconv.Itoa(x)+"("+letter(x)+")", api.OK)
			} else {
				isOf(t, h, []int{x}, "", api.ErrSymbol)
				isOf(t, h, []int{0, x, 0}, "", api.ErrSymbol)
			}
		}
	}
}

// P20.3, R1: nodes may lie 200 deep, and this is asked first for each node.
func TestDepthsOfStrings(t *testing.T) {
	r := rand.New(rand.NewSource(207))
	count := map[api.Errno]int{}
	for _, text := range []string{"S=aS|bT| T=U|bT|c U=c|a|b", "S=aT|b| T=U|c|c U=V V=W W=S", "S=aS|bcS|T T=|cc", "S=aSb|c|", "S=UT|b T=S|c U=a"} {
		g := rules(1, 3, text)
		c := choosing(g)
		for n := 190; n < 200; n++ {
			for i := range 12 {
				l := make([]int, n)
				if i > 0 {
					l = append(l, anyForm(r, g, 4, 3)...)
				}
				want, _, e := c.of(l)
				isOf(t, g, l, want, e)
				count[e]++
			}
		}
	}
	if len(count) < 6 || count[api.OK] < 15 || count[api.ErrDepth] < 50 || count[api.ErrRule] < 30 {
		t.Errorf("the lists are too much alike: %v", count)
	}
	isOf(t, rules(1, 1, "S=S|T T=T"), nil, "", api.ErrRule)
	isOf(t, rules(1, 1, "S=S"), nil, "", api.ErrRule)
}

// P20.3, R1: a tree may have 2,000 nodes, and for each node this is asked last.
func TestNodesOfStrings(t *testing.T) {
	r := rand.New(rand.NewSource(208))
	count := map[string]int{}
	for _, text := range []string{
		"S=aTS|bc| T=UUUUUU U=VV|b V=", "S=aTTS|bU| T=UU U=VVV|b|c V=", "S=aTTS|b| T=UUU U=VVV V=", "S=aTS|U T=UVVVV U=|bU V=WW W=", "S=aTbS|c| T=UUUUU U=V|b V=",
		"S=aTTTTS|bb|bc| T=UU U=V V=", "S=aSTTT|b|c T=UUU U=", "S=aTSb|c T=UUUUUV U=|c V=", "S=aTSbc| T=UUUUUU U=|c", "S=aTScb|b|b T=UUUUUU U=VV V=", "S=aTTTSb| T=UUUUU U=", "S=aTTTSb|c|d T=UUUUUU U=",
	} {
		g := rules(1, 4, text)
		c := choosing(g)
		for n := 50; n < 100; n++ {
			for i := range 4 {
				m := n
				if i > 1 {
					m = r.Intn(n + 1)
				}
				l := slices.Concat(make([]int, n), slices.Repeat([]int{1}, m), anyForm(r, g, i, 2))
				l = slices.DeleteFunc(l, func(x int) bool { return x >= 16 })
				want, symbol, e := c.of(l)
				isOf(t, g, l, want, e)
				name := e.Error()
				if e == api.ErrFull && symbol < 16 {
					name = "full of terminals"
				}
				count[name]++
			}
		}
	}
	if count["full"] < 150 || count["full of terminals"] < 10 || count["ok"] < 40 || count["rule"] < 100 {
		t.Errorf("the lists are too much alike: %v", count)
	}
}

// P20.3, R1: at the node number 2,001 the other errors come first.
func TestErrorsOfTheLastNode(t *testing.T) {
	sum := func(n, m int, more ...int) []int {
		return slices.Concat(make([]int, n), slices.Repeat([]int{1}, m), more)
	}
	// 20 nodes belong to each a, so that 100 of them make 2,000, and then comes an S.
	g := rules(1, 4, "S=aTTTS|b|cS|cT T=UUUUU U=")
	isOf(t, g, sum(99, 0), "", api.ErrRule)
	isOf(t, g, sum(99, 1), opened(99, "T4(", "U5()")+"S1(b)"+strings.Repeat(")", 99), api.OK)
	isOf(t, g, sum(100, 0), "", api.ErrRule)
	isOf(t, g, sum(100, 1), "", api.ErrFull)
	isOf(t, g, sum(101, 0), "", api.ErrFull)
	isOf(t, g, sum(100, 0, 2), "", api.ErrConflict)
	isOf(t, g, sum(100, 0, 3), "", api.ErrRule)
	// With 96 of them and an empty S there are 1,921 nodes, and then come 96 b.
	h := rules(1, 4, "S=aTTTSb| T=UUUUU U=")
	isOf(t, h, sum(95, 95), opened(95, "T2(", "U3()")+"S1()"+strings.Repeat("b)", 95), api.OK)
	isOf(t, h, sum(96, 78), "", api.ErrShort)
	isOf(t, h, sum(96, 79), "", api.ErrShort)
	isOf(t, h, sum(96, 79, 2), "", api.ErrToken)
	isOf(t, h, sum(96, 80), "", api.ErrFull)
	isOf(t, h, sum(96, 80, 2), "", api.ErrFull)
	isOf(t, h, sum(96, 96), "", api.ErrFull)
	// 2,000 nodes, and 2,001.
	for _, text := range []string{"S=aTS|b|bb|bbb|bbbb T=UUUUUU U=VV V=", "S=aTTS|b|bb|bbb|bbbb T=UUUUUU U=V V="} {
		x := rules(4, 2, text)
		c := choosing(x)
		for n := 60; n < 100; n++ {
			for most := range 5 {
				want, _, e := c.of(sum(n, most))
				isOf(t, x, sum(n, most), want, e)
			}
		}
	}
}

// opened is the beginning of the text of a tree in which S0 has the kids a, three times five kids with one above them, and S, with so many of these S.
func opened(n int, above, kid string) string {
	return strings.Repeat("S0(a"+strings.Repeat(above+strings.Repeat(kid, 5)+")", 3), n)
}

// P20.3, R1: sets that are too great are an error of each list that is right, and come behind those of lists.
func TestTooGreatSets(t *testing.T) {
	g := rules(4, 5, "S=TTTT| T=a|b|c|d|e")
	isOf(t, g, nil, "", api.ErrStrings)
	isOf(t, g, form("abcd"), "", api.ErrStrings)
	isOf(t, g, make([]int, 200), "", api.ErrStrings)
	isOf(t, g, make([]int, 201), "", api.ErrFull)
	isOf(t, g, []int{5}, "", api.ErrSymbol)
	// One that is not reached has it, too.
	h := rules(4, 5, "S=ab T=UUUU U=a|b|c|d|e")
	isOf(t, h, form("ab"), "", api.ErrStrings)
	isBuild(t, h, []int{0}, "S0(ab)", api.OK)
	isEmpty(t, g, 16, "S1()", api.OK)
	isTree(t, g, planted("S0(T2(a)T3(b)T4(c)T5(d))"))
	g.K = 3
	isOf(t, g, form("abcd"), "S0(T2(a)T3(b)T4(c)T5(d))", api.OK)
}

// P20.4: the least empty trees, held against the least ones of each height.
func TestEmptyTrees(t *testing.T) {
	found, sizes := 0, map[int]int{}
	r := rand.New(rand.NewSource(209))
	l := grammars(209, 500, 4)
	for range 1000 {
		// Most nonterminals have only such productions as lead to the last one, so that trees are great.
		g := random(r, 1, 1, 1+r.Intn(8), 24, 1)
		for p, prod := range g.Prods[:len(g.Prods)-1] {
			g.Prods[p].Right = make([]int, r.Intn(5))
			for i := range g.Prods[p].Right {
				g.Prods[p].Right[i] = min(15+len(g.Names), prod.Left+r.Intn(4))
			}
			if len(g.Prods[p].Right) == 0 && r.Intn(3) > 0 {
				g.Prods[p].Right = []int{16 + r.Intn(len(g.Names))}
			}
		}
		g.Prods[len(g.Prods)-1].Right = nil
		l = append(l, g)
	}
	for _, g := range l {
		want := wantEmpty(g)
		for n := range g.Names {
			if want[16+n] == "" {
				isEmpty(t, g, 16+n, "", api.ErrMissing)
				continue
			}
			isEmpty(t, g, 16+n, want[16+n], api.OK)
			found++
			sizes[strings.Count(want[16+n], "(")]++
		}
		for _, x := range append(strange, -1, 0, len(g.Tokens)-1, len(g.Tokens), 7, 15, 16+len(g.Names)) {
			isEmpty(t, g, x, "", api.ErrSymbol)
		}
	}
	if found < 2000 || len(sizes) < 15 {
		t.Errorf("the grammars are too much alike: %d, %v", found, sizes)
	}
}

// P20.4: the first one of several least trees, and of greater ones.
func TestFirstEmptyTrees(t *testing.T) {
	for _, c := range []struct{ text, want string }{
		{"S=|", "S0()"}, {"S=S|", "S1()"}, {"S=SS|T|U T=U| U=", "S1(T4())"}, {"S=TT|UV|V T=|T U=V V=", "S2(V6())"}, {"S=UU|TT|VV T=|a U=V V=", "S1(T3()T3())"},
		{"S=TU|UT T=|U U=|T", "S0(T2()U4())"}, {"S=aT|T|TT T=b|U|V U=V V=|", "S1(T5(V7()))"}, {"S=TTTTTT|U T=U U=V V=W W=", "S1(U3(V4(W5())))"},
		{"S=T|UU T=VVV U=V V=|b", "S0(T2(V4()V4()V4()))"}, {"S=T|UU T=VVVV U=V V=|b", "S1(U3(V4())U3(V4()))"}, {"S=T T=S|U U=aS|ST|", "S0(T2(U5()))"},
	} {
		isEmpty(t, rules(1, 2, c.text), 16, c.want, api.OK)
	}
}

// P20.4, P20.9: an empty tree may be greater than right trees are.
func TestGreatEmptyTrees(t *testing.T) {
	g := rules(1, 1, "S=TTTTTT T=UUUUUU U=VVVVVV V=WWWWWW W=XXXXXX X=YYYYYY Y=ZZZZZZ Z=")
	want, _ := reach.Trees(g)
	nodes := 0
	for n := 7; n >= 0; n-- {
		nodes = 1 + 6*nodes
		if n == 7 {
			nodes = 1
		}
		x, e := tree.Empty(g, 16+n)
		if e != api.OK || size(x) != nodes || want[n] != nodes || !isRight(g, x, 16+n) {
			t.Errorf("%d: %v, %d, %d, not %d", n, e, size(x), want[n], nodes)
		}
		isChecked(t, g, x)
	}
}

// P20.4: the events of trees, held against their texts.
func TestEvents(t *testing.T) {
	kinds := map[int]int{}
	forest(210, 300, 12, 2000, func(r *rand.Rand, g api.Grammar, x api.Tree) {
		text := show(x)
		tokens := placed(terminals(text), r.Intn(100))
		for i := range tokens {
			tokens[i].At += r.Intn(5)
		}
		record, end := r.Intn(1<<40+1), r.Intn(1<<40+1)
		want := wantEvents(text, tokens, record, end)
		isEvents(t, g, x, tokens, record, end, want, api.OK)
		for _, e := range want {
			kinds[e.Kind]++
		}
	})
	if len(kinds) != 5 || kinds[api.EvRecord] < 800 || kinds[api.EvEnter] < 10000 || kinds[api.EvToken] < 5000 {
		t.Errorf("the trees are too much alike: %v", kinds)
	}
}

// P20.4: events without tokens, of a terminal alone, and with the greatest numbers.
func TestEventsWithAPoint(t *testing.T) {
	g := rules(1, 2, "S=TT|aTbT T=")
	const most = 1 << 40
	isEvents(t, g, leaf(1), []api.Token{{Symbol: 1, Text: "x", At: most}}, most, 0, []api.Event{{Kind: 1, Record: most, At: most}, {Kind: 3, Symbol: 1, Text: "x", At: most}, {Kind: 6, Record: most}}, api.OK)
	isEvents(t, g, node(17, 2), nil, 0, most, []api.Event{{Kind: 1, At: most}, {Kind: 2, Symbol: 17, Prod: 2, At: most}, {Kind: 4, Symbol: 17, Prod: 2}, {Kind: 6, At: most}}, api.OK)
	isEvents(t, g, node(17, 2), []api.Token{}, most, 0, []api.Event{{Kind: 1, Record: most}, {Kind: 2, Symbol: 17, Prod: 2}, {Kind: 4, Symbol: 17, Prod: 2}, {Kind: 6, Record: most}}, api.OK)
	text := strings.Repeat("y", 24)
	tokens := []api.Token{{Symbol: 0, At: 9}, {Symbol: 1, Text: text, At: 7}}
	isEvents(t, g, planted("S1(aT2()bT2())"), tokens, 1, 5, []api.Event{
		{Kind: 1, Record: 1, At: 9}, {Kind: 2, Symbol: 16, Prod: 1, At: 9}, {Kind: 3, At: 9}, {Kind: 2, Symbol: 17, Prod: 2, At: 7}, {Kind: 4, Symbol: 17, Prod: 2}, {Kind: 3, Symbol: 1, Text: text, At: 7},
		{Kind: 2, Symbol: 17, Prod: 2, At: 5}, {Kind: 4, Symbol: 17, Prod: 2}, {Kind: 4, Symbol: 16, Prod: 1}, {Kind: 6, Record: 1, At: 5},
	}, api.OK)
	isEvents(t, g, planted("S0(T2()T2())"), nil, 2, 3, wantEvents("S0(T2()T2())", nil, 2, 3), api.OK)
	// As many tokens as a tree can have.
	h := rules(1, 1, "S=SSSSSS|S|a|")
	for _, n := range []int{1500, 1999, 2000} {
		x := full(n)
		isEvents(t, h, x, placed(terminals(show(x)), 0), 0, 9, wantEvents(show(x), placed(terminals(show(x)), 0), 0, 9), api.OK)
	}
}

// full returns a right tree of S=SSSSSS|S|a| with so many nodes, almost half of them terminals.
func full(nodes int) api.Tree {
	switch {
	case nodes == 1:
		return node(16, 3)
	case nodes == 2:
		return node(16, 2, leaf(0))
	case nodes < 13:
		return node(16, 1, full(nodes-1))
	}
	t, rest := node(16, 0), nodes-1
	for i := 6; i > 0; i-- {
		t.Kids = append(t.Kids, full(rest/i))
		rest -= rest / i
	}
	return t
}

// P20.4: where a record and the end may be.
func TestNumbersOfEvents(t *testing.T) {
	g := example()
	for _, x := range append(strange, -1, 0, 1, 1<<40-1, 1<<40, 1<<40+1, 1<<41) {
		want, err := wantEvents("S1(T3())", nil, x, 3), api.OK
		if x < 0 || x > 1<<40 {
			want, err = nil, api.ErrRange
		}
		isEvents(t, g, planted("S1(T3())"), nil, x, 3, want, err)
		if err == api.OK {
			want = wantEvents("S1(T3())", nil, 3, x)
		}
		isEvents(t, g, planted("S1(T3())"), nil, 3, x, want, err)
	}
}

// P20.4: each token must be right for the terminals of the grammar, and a terminal of the tree.
func TestTokensOfEvents(t *testing.T) {
	for terms := 1; terms <= 8; terms++ {
		g := rules(1, terms, "S="+strings.Join(strings.Split("abcdefgh"[:terms], ""), "|"))
		for x := -20; x < 40; x++ {
			for _, text := range []string{"", strings.Repeat("z", 24), strings.Repeat("z", 25)} {
				for _, at := range []int{-1, 0, 1 << 40, 1<<40 + 1} {
					tokens := []api.Token{{Symbol: x, Text: text, At: at}}
					want, err := []api.Event(nil), token.Check(tokens[0], terms)
					if err == api.OK && x != terms-1 {
						err = api.ErrForm
					}
					whole := "S" + strconv.Itoa(terms-1) + "(" + letter(terms-1) + ")"
					if err == api.OK {
						want = wantEvents(whole, tokens, 1, 2)
					}
					isEvents(t, g, planted(whole), tokens, 1, 2, want, err)
				}
			}
		}
	}
}

// P20.4, R1: the errors of Events in their order, two at a time.
func TestOrderOfErrorsOfEvents(t *testing.T) {
	g, x := example(), planted("S0(aS1(T2(c))b)")
	right := placed([]int{0, 2, 1}, 4)
	long, late, other := api.Token{Symbol: 0, Text: strings.Repeat("z", 25)}, api.Token{Symbol: 2, At: 1<<40 + 1}, api.Token{Symbol: 4}
	isEvents(t, g, x, right, 0, 0, wantEvents(show(x), right, 0, 0), api.OK)
	for _, c := range []struct {
		tokens []api.Token
		err    api.Errno
	}{
		{[]api.Token{long, late, other}, api.ErrLong}, {[]api.Token{other, late, long}, api.ErrSymbol}, {[]api.Token{late, long, other}, api.ErrRange}, {[]api.Token{right[0], right[1], other}, api.ErrSymbol},
		{[]api.Token{right[1], long}, api.ErrLong}, {append(slices.Clone(right), late), api.ErrRange}, {append(slices.Repeat(right, 1000), long), api.ErrLong},
		{nil, api.ErrForm}, {right[:2], api.ErrForm}, {right[1:], api.ErrForm}, {append(slices.Clone(right), right[2]), api.ErrForm}, {[]api.Token{right[0], right[2], right[1]}, api.ErrForm},
		{[]api.Token{right[0], right[1], {Symbol: 3}}, api.ErrForm}, {append(slices.Clone(right), api.Token{Symbol: 3}), api.ErrForm}, {slices.Repeat(right, 1000), api.ErrForm},
	} {
		isEvents(t, g, x, c.tokens, 0, 0, nil, c.err)
		for _, n := range []int{-1, 1<<40 + 1} {
			isEvents(t, g, x, c.tokens, n, 0, nil, api.ErrRange)
			isEvents(t, g, x, c.tokens, 0, n, nil, api.ErrRange)
			isEvents(t, g, node(16, 0), c.tokens, n, n, nil, api.ErrForm)
			isEvents(t, g, node(16, 0, make([]api.Tree, 2000)...), c.tokens, n, n, nil, api.ErrFull)
			isEvents(t, g, chain(201), c.tokens, n, n, nil, api.ErrDepth)
		}
	}
}

// P20.5: a tree is built of its productions, and these are those that it was built of.
func TestTreesAreBuiltOfTheirProductions(t *testing.T) {
	built, others := 0, 0
	forest(211, 400, 12, 2000, func(r *rand.Rand, g api.Grammar, x api.Tree) {
		prods, _ := tree.Prods(g, x)
		if x.Symbol == g.Start {
			isBuild(t, g, prods, show(x), api.OK)
			built++
		} else if y, e := tree.Build(g, prods); e != api.ErrRule && e != api.ErrShort && e != api.ErrLong {
			t.Errorf("Build(%s, %v): %s, %v", written(g), prods, show(y), e)
		}
		y, e := tree.Build(g, anyProds(r, g, nil, 40))
		if e != api.OK {
			return
		}
		others++
		again, _ := tree.Prods(g, y)
		if z, e := tree.Build(g, again); e != api.OK || !tree.Same(y, z) || tree.Check(g, y) != api.OK {
			t.Errorf("Build(%s, %v): %s, %v", written(g), again, show(y), e)
		}
	})
	if built < 800 || others < 300 {
		t.Errorf("the trees are too much alike: %d, %d", built, others)
	}
}

// P20.5: lists of productions lead where the derivation leads (derive.Run).
func TestListsAreDerivations(t *testing.T) {
	r := rand.New(rand.NewSource(212))
	built := 0
	for _, g := range grammars(212, 400, 4) {
		for range 20 {
			prods := anyProds(r, g, nil, r.Intn(40))
			form, err := derive.Run(g, prods)
			x, e := tree.Build(g, prods)
			isWhole := err == api.OK && !slices.ContainsFunc(form, func(x int) bool { return x >= 16 })
			if isWhole != (e == api.OK) {
				t.Errorf("Build(%s, %v): %v, and %v, %v", written(g), prods, e, form, err)
			}
			if e != api.OK {
				continue
			}
			built++
			l, _ := tree.Yield(g, x)
			again, _ := tree.Prods(g, x)
			if !slices.Equal(l, form) || !slices.Equal(again, prods) {
				t.Errorf("Build(%s, %v): %v, not %v; %v", written(g), prods, l, form, again)
			}
		}
	}
	if built < 1000 {
		t.Errorf("the lists are too much alike: %d", built)
	}
}

// strong returns the grammars that are strong LL(k), and for each other one those of its productions that are.
func strong(l []api.Grammar) []api.Grammar {
	var found []api.Grammar
	for _, g := range l {
		g = clone(g)
		for {
			c, is, e := predict.Conflict(g)
			if e != api.OK {
				break
			}
			if !is {
				found = append(found, g)
				break
			}
			g.Prods = slices.Delete(g.Prods, c.Q, c.Q+1)
		}
	}
	return found
}

// P20.6: a sentence of a strong LL(k) grammar has one tree.
func TestOneTree(t *testing.T) {
	r := rand.New(rand.NewSource(213))
	found, ks, long := 0, map[int]int{}, 0
	for _, g := range append(slices.Repeat(sound(), 40), strong(grammars(213, 800, 4))...) {
		if heights(g)[g.Start] == 0 {
			continue
		}
		for range 6 {
			x := anyTree(r, g, g.Start, r.Intn(40))
			l, e := tree.Yield(g, x)
			if e != api.OK || len(l) > 200 {
				continue
			}
			isOf(t, g, l, show(x), api.OK)
			found++
			if len(l) > 3 {
				ks[g.K]++
			}
			if len(l) > 20 {
				long++
			}
		}
	}
	if found < 2000 || ks[1] < 100 || ks[2] < 100 || ks[3] < 100 || ks[4] < 100 || long < 200 {
		t.Errorf("the trees are too much alike: %d, %v, %d", found, ks, long)
	}
}

// P20.7: there is a tree exactly for sentences, if the grammar is strong LL(k), and only for sentences if it is not; its yield is the list.
func TestTreesOfSentences(t *testing.T) {
	mosts := []int{0, 8, 5, 4, 3, 2, 2, 2, 2}
	l := grammars(214, 120, 4)
	sentences, others := 0, 0
	for i, g := range slices.Concat(strong(l), l) {
		most := mosts[len(g.Tokens)]
		all, e := derive.Sentences(g, most)
		if e != api.OK {
			continue
		}
		isStrong, _ := predict.Strong(g)
		for _, s := range universe(len(g.Tokens), most) {
			is := slices.ContainsFunc(all, func(x []int) bool { return slices.Equal(x, s) })
			x, e := tree.Of(g, s)
			if isStrong && is != (e == api.OK) || e == api.OK && !is {
				t.Errorf("%d: Of(%s, %v): %s, %v", i, written(g), s, show(x), e)
			}
			if e != api.OK {
				others++
				continue
			}
			sentences++
			if yield, e := tree.Yield(g, x); !slices.Equal(yield, s) || e != api.OK || x.Symbol != g.Start {
				t.Errorf("%d: Yield(%s, %s): %v, %v", i, written(g), show(x), yield, e)
			}
		}
	}
	if sentences < 300 || others < 5000 {
		t.Errorf("the grammars are too much alike: %d, %d", sentences, others)
	}
}

// P20.8: Enter and Exit nest, there is a Token for each token, in order, and the offsets do not fall.
func TestEventsNest(t *testing.T) {
	forest(215, 300, 12, 2000, func(r *rand.Rand, g api.Grammar, x api.Tree) {
		yield, _ := tree.Yield(g, x)
		tokens, e := token.Place(placed(yield, 0), len(g.Tokens), r.Intn(1000))
		if e != api.OK {
			return
		}
		last := api.Token{}
		if len(tokens) > 0 {
			last = tokens[len(tokens)-1]
		}
		end := last.At + token.Size(last) + r.Intn(3)
		l, e := tree.Events(g, x, tokens, 3, end)
		if e != api.OK || l[0].Kind != api.EvRecord || l[len(l)-1].Kind != api.EvEnd {
			t.Fatalf("Events(%s, %s): %v, %v", written(g), shortened(show(x)), l, e)
		}
		if s := flaw(l[1:len(l)-1], tokens); s != "" {
			t.Errorf("Events(%s, %s): %s: %v", written(g), shortened(show(x)), s, l)
		}
		if at := slices.DeleteFunc(slices.Clone(l), func(e api.Event) bool { return e.Kind == api.EvExit }); !slices.IsSortedFunc(at, func(a, b api.Event) int { return cmp.Compare(a.At, b.At) }) {
			t.Errorf("Events(%s, %s): the offsets fall: %v", written(g), shortened(show(x)), l)
		}
	})
}

// flaw says what is wrong with the events of the nodes of a tree, if anything is.
func flaw(l []api.Event, tokens []api.Token) string {
	var open [][2]int
	for i, e := range l {
		switch {
		case i > 0 && len(open) == 0:
			return "something is behind the root"
		case e.Kind == api.EvEnter:
			open = append(open, [2]int{e.Symbol, e.Prod})
		case e.Kind == api.EvExit:
			if open[len(open)-1] != [2]int{e.Symbol, e.Prod} {
				return "an exit without its enter"
			}
			open = open[:len(open)-1]
		case e.Kind != api.EvToken || len(tokens) == 0 || e != (api.Event{Kind: api.EvToken, Symbol: tokens[0].Symbol, Text: tokens[0].Text, At: tokens[0].At}):
			return "another token"
		default:
			tokens = tokens[1:]
		}
	}
	if len(open) > 0 || len(tokens) > 0 {
		return "something is missing"
	}
	return ""
}

// P20.9: the empty tree has the size that reach says, and is a right tree, if it is not too great.
func TestSizesOfEmptyTrees(t *testing.T) {
	found := 0
	for _, g := range grammars(216, 600, 2) {
		sizes, _ := reach.Trees(g)
		for i, want := range sizes {
			x, e := tree.Empty(g, 16+i)
			if want == 0 {
				isEmpty(t, g, 16+i, "", api.ErrMissing)
				continue
			}
			n, _, err := tree.Size(g, x)
			l, _ := tree.Yield(g, x)
			if n != want || e != api.OK || err != api.OK || x.Symbol != 16+i || len(l) > 0 {
				t.Errorf("Empty(%s, %d): %s, %v, %d nodes, not %d", written(g), 16+i, show(x), e, n, want)
			}
			found++
		}
	}
	if found < 500 {
		t.Errorf("the grammars are too much alike: %d", found)
	}
}

// copied returns a tree that is equal to t, in memory of its own, with room behind each list of kids.
func copied(t api.Tree) api.Tree {
	room := make([]api.Tree, len(t.Kids)+2)
	for i, kid := range t.Kids {
		room[i] = copied(kid)
	}
	t.Kids = room[:len(t.Kids)]
	return t
}

// whole writes a tree with what is in the room behind its lists of kids.
func whole(t api.Tree) string {
	s := show(t)
	for _, kid := range t.Kids[:cap(t.Kids)] {
		s += " " + whole(kid)
	}
	return s
}

// R4: arguments stay as they are, and so does the room behind them.
func TestArgumentsStay(t *testing.T) {
	g := example()
	before := clone(g)
	for p := range g.Prods {
		g.Prods[p].Right = append(g.Prods[p].Right, 99, 99)[:len(g.Prods[p].Right)]
	}
	symbols, prods := []int{0, 0, 2, 1, 1, 77}, []int{0, 0, 1, 2, 77}
	isOf(t, g, symbols[:5], "S0(aS0(aS1(T2(c))b)b)", api.OK)
	isBuild(t, g, prods[:4], "S0(aS0(aS1(T2(c))b)b)", api.OK)
	isEmpty(t, g, 16, "S1(T3())", api.OK)
	tokens := append(placed(symbols[:5], 3), api.Token{Symbol: 66})
	kept := slices.Clone(tokens)
	x := copied(planted("S0(aS0(aS1(T2(c))b)b)"))
	text := whole(x)
	isEvents(t, g, x, tokens[:5], 1, 2, wantEvents(show(x), kept[:5], 1, 2), api.OK)
	isTree(t, g, x)
	isSame(t, x, x, true)
	isSame(t, x, planted("S0(aS0(aS1(T2(c))b)b)"), true)
	if whole(x) != text || !slices.Equal(tokens, kept) || !slices.Equal(symbols, []int{0, 0, 2, 1, 1, 77}) || !slices.Equal(prods, []int{0, 0, 1, 2, 77}) || !grammar.Same(g, before) {
		t.Errorf("%s, %v, %v, %v, %s", whole(x), tokens, symbols, prods, written(g))
	}
	for p := range g.Prods {
		n := len(g.Prods[p].Right)
		if !slices.Equal(g.Prods[p].Right[n:n+2], []int{99, 99}) {
			t.Errorf("%d: %v", p, g.Prods[p].Right[:n+2])
		}
	}
}

// spoil overwrites l and the room behind it.
func spoil[E any](l []E, with E) {
	l = l[:cap(l)]
	for i := range l {
		l[i] = with
	}
}

// places notes where the nodes of t lie, also those in the room behind lists of kids, and demands that none of them lies where another one does.
func places(t *testing.T, x api.Tree, met map[*api.Tree]bool) {
	t.Helper()
	room := x.Kids[:cap(x.Kids)]
	for i := range room {
		if met[&room[i]] {
			t.Errorf("%s: two nodes in one place", shortened(show(x)))
		}
		met[&room[i]] = true
		places(t, room[i], met)
	}
}

// R4: trees share no memory with arguments or other results, nor any part of them with another part.
func TestTreesAreNotShared(t *testing.T) {
	g := rules(1, 3, "S=aSb|TT|c T=UU U=")
	met := map[*api.Tree]bool{}
	for range 3 {
		symbols, prods := form("aabb"), []int{0, 0, 1, 3, 4, 4, 3, 4, 4}
		x, _ := tree.Of(g, symbols)
		y, _ := tree.Build(g, prods)
		z, _ := tree.Empty(g, 16)
		spoil(symbols, 88)
		spoil(prods, 88)
		for _, one := range []api.Tree{x, y, z} {
			places(t, one, met)
		}
		text := "S1(T3(U4()U4())T3(U4()U4()))"
		if show(x) != "S0(aS0(a"+text+"b)b)" || show(y) != show(x) || show(z) != text {
			t.Errorf("%s, %s, %s", show(x), show(y), show(z))
		}
		spoil(x.Kids, node(77, 77))
		spoil(y.Kids[1].Kids, node(77, 77))
		spoil(z.Kids[0].Kids, node(77, 77))
		if show(y) != "S0(a"+show(y.Kids[1])+"b)" || show(z) != "S1("+show(z.Kids[0])+"T3(U4()U4()))" {
			t.Errorf("%s, %s", show(y), show(z))
		}
	}
	if !grammar.Same(g, rules(1, 3, "S=aSb|TT|c T=UU U=")) {
		t.Errorf("%s", written(g))
	}
}

// R4: lists share no memory with arguments or other results.
func TestListsAreNotShared(t *testing.T) {
	g := example()
	for _, text := range []string{"S0(aS0(aS1(T2(c))b)b)", "S0(aS1(T3())b)", "S1(T2(c))", "c"} {
		x := planted(text)
		tokens := placed(terminals(text), 5)
		want := wantEvents(text, tokens, 1, 2)
		for range 3 {
			l, _ := tree.Yield(g, x)
			p, _ := tree.Prods(g, x)
			e, _ := tree.Events(g, x, tokens, 1, 2)
			again, _ := tree.Events(g, x, tokens, 1, 2)
			if !slices.Equal(l, terminals(text)) || !slices.Equal(p, numbers(text)) || !slices.Equal(e, want) {
				t.Errorf("%s: %v, %v, %v", text, l, p, e)
			}
			spoil(l, 88)
			if !slices.Equal(p, numbers(text)) {
				t.Errorf("%s: %v", text, p)
			}
			spoil(p, 88)
			spoil(e, api.Event{Kind: 88})
			if !slices.Equal(again, want) || show(x) != text || !slices.Equal(tokens, placed(terminals(text), 5)) {
				t.Errorf("%s: %v, %s, %v", text, again, show(x), tokens)
			}
		}
		e, _ := tree.Events(g, x, tokens, 1, 2)
		spoil(tokens, api.Token{Symbol: 88})
		if !slices.Equal(e, want) {
			t.Errorf("%s: %v", text, e)
		}
	}
}

// R4: a nil list and an empty one are equal.
func TestNilAndEmpty(t *testing.T) {
	g := rules(1, 1, "S=|aS")
	for _, right := range [][]int{nil, {}} {
		g.Prods[0].Right = right
		for _, kids := range [][]api.Tree{nil, {}} {
			isTree(t, g, node(16, 0, kids...))
			isTree(t, g, node(0, -1, kids...))
			isRefused(t, g, node(16, 1, kids...), api.ErrForm)
			isSame(t, api.Tree{Kids: kids}, api.Tree{}, true)
			isSame(t, node(16, 1, node(3, 4, kids...)), node(16, 1, node(3, 4)), true)
			isSame(t, api.Tree{Kids: kids}, node(0, 0, leaf(0)), false)
		}
		for _, none := range [][]int{nil, {}} {
			isOf(t, g, none, "S0()", api.OK)
			isBuild(t, g, none, "", api.ErrShort)
		}
		isEmpty(t, g, 16, "S0()", api.OK)
		isBuild(t, g, []int{0}, "S0()", api.OK)
	}
}

// R6: the same arguments lead to the same results each time.
func TestAgain(t *testing.T) {
	forest(217, 40, 8, 500, func(r *rand.Rand, g api.Grammar, x api.Tree) {
		l := terminals(show(x))
		y, e := tree.Of(g, l)
		want := show(y)
		if e != api.OK {
			want = ""
		}
		for range 3 {
			isOf(t, g, l, want, e)
			isTree(t, g, x)
			isSame(t, x, planted(show(x)), true)
		}
	})
}

// pick returns one of the strange numbers, or a symbol of g.
func pick(r *rand.Rand, g api.Grammar) int {
	if r.Intn(3) > 0 {
		return append(anyForm(r, g, 2, 1), -1)[0]
	}
	return strange[r.Intn(len(strange))]
}

// P1, R5: no argument is too great or too strange.
func TestAllArgumentsAreTaken(t *testing.T) {
	r := rand.New(rand.NewSource(218))
	count := map[api.Errno]int{}
	for _, g := range grammars(218, 1500, 8) {
		g = clone(g)
		symbols, prods := anyForm(r, g, 4, 8), anyProds(r, g, nil, 20)
		x := node(pick(r, g), pick(r, g))
		for range r.Intn(6) {
			x = node(pick(r, g), pick(r, g), x, node(pick(r, g), pick(r, g)))
		}
		if h := heights(g); h[g.Start] > 0 && r.Intn(3) > 0 {
			x = anyTree(r, g, g.Start, 5)
		}
		if len(symbols) > 0 && r.Intn(4) == 0 {
			symbols[r.Intn(len(symbols))] = pick(r, g)
		}
		switch r.Intn(12) {
		case 0:
			g.K = pick(r, g)
		case 1:
			g.Start = pick(r, g)
		case 2:
			g.Prods[r.Intn(len(g.Prods))].Left = pick(r, g)
		case 3:
			g.Prods[r.Intn(len(g.Prods))].Right = slices.Repeat([]int{pick(r, g)}, 1+r.Intn(7))
		}
		for _, e := range anyErrors(r, g, x, symbols, prods) {
			count[e]++
		}
	}
	if len(count) < 12 || count[api.OK] < 2000 {
		t.Errorf("the arguments are too much alike: %v", count)
	}
}

// anyErrors calls all functions, and returns their errors.
func anyErrors(r *rand.Rand, g api.Grammar, x api.Tree, symbols, prods []int) []api.Errno {
	l := []api.Errno{tree.Check(g, x)}
	yield, e := tree.Yield(g, x)
	l = append(l, e)
	_, e = tree.Prods(g, x)
	l = append(l, e)
	_, _, e = tree.Size(g, x)
	l = append(l, e)
	_, e = tree.Build(g, prods)
	l = append(l, e)
	_, e = tree.Of(g, symbols)
	l = append(l, e)
	_, e = tree.Empty(g, pick(r, g))
	l = append(l, e)
	tokens := placed(yield, pick(r, g))
	_, e = tree.Events(g, x, tokens, max(pick(r, g), 0), max(pick(r, g), 0))
	tree.Same(x, x)
	return append(l, e)
}
