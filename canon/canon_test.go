package canon_test

import (
	"hash/fnv"
	"math"
	"math/big"
	"math/rand"
	"slices"
	"strconv"
	"strings"
	"testing"

	"stenotype/api"
	"stenotype/canon"
	"stenotype/grammar"
	"stenotype/source"
)

const (
	// shownText is the text of the examples, and shownBytes its canonical form.
	shownText  = "lookahead 1; token a; separator b; start S; S = a S | ;"
	shownBytes = "\x01" + "\x01\x01a" + "\x01b" + "\x01\x01S" + "\x00" + "\x02" + "\x00\x02\x00\x08" + "\x00\x00"
	// smallBytes is the canonical form of the least grammar, and symbolBytes that of one with a symbol, its last byte.
	smallBytes  = "\x01" + "\x01\x01a" + "\x01z" + "\x01\x01S" + "\x00" + "\x01" + "\x00\x00"
	symbolBytes = "\x01" + "\x01\x01a" + "\x01z" + "\x01\x01S" + "\x00" + "\x01" + "\x00\x01\x00"
)

// strange are numbers that no grammar has as lookahead, start, left side or symbol.
var strange = []int{math.MinInt, math.MinInt + 1, math.MinInt + 16, -256, -240, -17, -16, -8, -1, 24, 25, 40, 256 + 16, 1 << 32, 1<<32 + 16, math.MaxInt - 16, math.MaxInt}

// shown returns the grammar of the examples.
func shown() api.Grammar {
	return api.Grammar{K: 1, Tokens: []string{"a"}, Sep: "b", Names: []string{"S"}, Start: 16, Prods: []api.Prod{{Left: 16, Right: []int{0, 16}}, {Left: 16}}}
}

// small returns the least grammar that is valid.
func small() api.Grammar {
	return api.Grammar{K: 1, Tokens: []string{"a"}, Sep: "z", Names: []string{"S"}, Start: 16, Prods: []api.Prod{{Left: 16}}}
}

// large returns a grammar that has as much of everything as a valid one may have.
func large() api.Grammar {
	g := api.Grammar{K: 4, Sep: "separator_12", Start: 23}
	for i := range 8 {
		g.Tokens = append(g.Tokens, "terminal___"+strconv.Itoa(i))
		g.Names = append(g.Names, "NONTERMINAL"+strconv.Itoa(i))
		for j := range 3 {
			g.Prods = append(g.Prods, api.Prod{Left: 16 + i, Right: slices.Repeat([]int{(i + j) % 8, 16 + (i+j)%8}, 3)})
		}
	}
	return g
}

// clone returns a grammar that is equal to g, in memory of its own.
func clone(g api.Grammar) api.Grammar {
	h := g
	h.Tokens, h.Names, h.Prods = slices.Clone(g.Tokens), slices.Clone(g.Names), slices.Clone(g.Prods)
	for i := range h.Prods {
		h.Prods[i].Right = slices.Clone(g.Prods[i].Right)
	}
	return h
}

// plain writes all that is in g, so that two grammars are equal exactly if the same is written for them.
func plain(g api.Grammar) string {
	l := []string{strconv.Itoa(g.K), strings.Join(quoted(g.Tokens), ","), strconv.Quote(g.Sep), strings.Join(quoted(g.Names), ","), strconv.Itoa(g.Start)}
	for _, prod := range g.Prods {
		l = append(l, strconv.Itoa(prod.Left)+":")
		for _, symbol := range prod.Right {
			l = append(l, strconv.Itoa(symbol))
		}
	}
	return strings.Join(l, " ")
}

// quoted returns the strings of l in quotes.
func quoted(l []string) []string {
	var q []string
	for _, s := range l {
		q = append(q, strconv.Quote(s))
	}
	return q
}

// at returns the fault err at n.
func at(err api.Errno, n int) api.Fault { return api.Fault{Err: err, At: n} }

// pick returns one of l at random.
func pick[T any](r *rand.Rand, l []T) T { return l[r.Intn(len(l))] }

// names returns n different names at random that begin with one of the letters.
func names(r *rand.Rand, n int, letters string) []string {
	var l []string
	for len(l) < n {
		s := []byte{letters[r.Intn(len(letters))]}
		for range r.Intn(api.MaxName) {
			s = append(s, "abzABZ019_"[r.Intn(10)])
		}
		if !slices.Contains(l, string(s)) {
			l = append(l, string(s))
		}
	}
	return l
}

// valid returns a valid grammar at random.
func valid(r *rand.Rand) api.Grammar {
	terms, nonterms := 1+r.Intn(8), 1+r.Intn(8)
	words := names(r, terms+1, "abcxyz")
	g := api.Grammar{K: 1 + r.Intn(4), Tokens: words[:terms:terms], Sep: words[terms], Names: names(r, nonterms, "ABCXYZ"), Start: 16 + r.Intn(nonterms)}
	var symbols, lefts []int
	for i := range terms {
		symbols = append(symbols, i)
	}
	for i := range nonterms {
		symbols, lefts = append(symbols, 16+i), append(lefts, 16+i)
	}
	for range r.Intn(25 - nonterms) {
		lefts = append(lefts, 16+r.Intn(nonterms))
	}
	slices.Sort(lefts)
	for _, left := range lefts {
		prod := api.Prod{Left: left}
		for range r.Intn(7) {
			prod.Right = append(prod.Right, pick(r, symbols))
		}
		g.Prods = append(g.Prods, prod)
	}
	return g
}

// grammars are valid grammars: great and small ones, and some at random.
func grammars() []api.Grammar {
	l := []api.Grammar{shown(), small(), large()}
	r := rand.New(rand.NewSource(12))
	for range 300 {
		l = append(l, valid(r))
	}
	return l
}

// near returns valid grammars that differ from g, which is valid, in one thing only.
func near(g api.Grammar) []api.Grammar {
	var l []api.Grammar
	try := func(change func(h *api.Grammar)) {
		h := clone(g)
		change(&h)
		if grammar.Check(h) == api.OK && plain(h) != plain(g) {
			l = append(l, h)
		}
	}
	try(func(h *api.Grammar) { h.K = h.K%4 + 1 })
	try(func(h *api.Grammar) { h.Tokens[0] += "x" })
	try(func(h *api.Grammar) { h.Tokens = append(h.Tokens, "more") })
	try(func(h *api.Grammar) { h.Tokens[0], h.Sep = h.Sep, h.Tokens[0] })
	try(func(h *api.Grammar) { slices.Reverse(h.Tokens) })
	try(func(h *api.Grammar) { h.Sep = "other" })
	try(func(h *api.Grammar) { h.Names[len(h.Names)-1] = "Other" })
	try(func(h *api.Grammar) { slices.Reverse(h.Names) })
	try(func(h *api.Grammar) { h.Start++ })
	try(func(h *api.Grammar) { h.Start-- })
	for p := range g.Prods {
		try(func(h *api.Grammar) { h.Prods[p].Left++ })
		try(func(h *api.Grammar) { h.Prods = slices.Delete(h.Prods, p, p+1) })
		try(func(h *api.Grammar) { h.Prods = slices.Insert(h.Prods, p, h.Prods[p]) })
		try(func(h *api.Grammar) { h.Prods[p].Right = append(h.Prods[p].Right, 16) })
		for i := range g.Prods[p].Right {
			try(func(h *api.Grammar) { h.Prods[p].Right[i]++ })
			try(func(h *api.Grammar) { h.Prods[p].Right[i] ^= 16 })
			try(func(h *api.Grammar) { h.Prods[p].Right = slices.Delete(h.Prods[p].Right, i, i+1) })
		}
	}
	return l
}

// written returns the canonical form of g, by the words of the terms: all numbers in it have one byte.
func written(g api.Grammar) string {
	b := []byte{byte(g.K), byte(len(g.Tokens))}
	add := func(s string) {
		b = append(b, byte(len(s)))
		b = append(b, s...)
	}
	for _, s := range g.Tokens {
		add(s)
	}
	add(g.Sep)
	b = append(b, byte(len(g.Names)))
	for _, s := range g.Names {
		add(s)
	}
	b = append(b, byte(g.Start-16), byte(len(g.Prods)))
	for _, prod := range g.Prods {
		b = append(b, byte(prod.Left-16), byte(len(prod.Right)))
		for _, symbol := range prod.Right {
			if symbol >= 16 {
				symbol -= 8
			}
			b = append(b, byte(symbol))
		}
	}
	return string(b)
}

// reading is a string that is read up to at, or up to the first fault.
type reading struct {
	s     string
	at    int
	fault api.Fault
}

// fail keeps the first fault.
func (r *reading) fail(err api.Errno, n int) {
	if r.fault.Err == api.OK {
		r.fault = at(err, n)
	}
}

// varint reads a number of any size, byte by byte.
func (r *reading) varint() uint64 {
	var n uint64
	for i := r.at; r.fault.Err == api.OK; i++ {
		switch {
		case i == len(r.s):
			r.fail(api.ErrShort, i)
		case i > r.at && r.s[i] == 0 || i == r.at+9 && r.s[i] > 1:
			r.fail(api.ErrVarint, i)
		default:
			n += uint64(r.s[i]%128) << (7 * (i - r.at))
			if r.s[i] < 128 {
				r.at = i + 1
				return n
			}
		}
	}
	return 0
}

// number reads a number from least to most; err is the fault if it is another one.
func (r *reading) number(least, most uint64, err api.Errno) int {
	begin := r.at
	n := r.varint()
	if n < least || n > most {
		r.fail(err, begin)
	}
	if r.fault.Err != api.OK {
		return 0
	}
	return int(n)
}

// word reads a string of at most 12 bytes.
func (r *reading) word() string {
	n := r.number(0, 12, api.ErrLong)
	if r.at+n > len(r.s) {
		r.fail(api.ErrShort, r.at)
	}
	if r.fault.Err != api.OK {
		return ""
	}
	r.at += n
	return r.s[r.at-n : r.at]
}

// want returns what is to be read from s: a grammar, or a fault.
func want(s string) (api.Grammar, api.Fault) {
	if len(s) > 20000 {
		return api.Grammar{}, at(api.ErrState, 0)
	}
	r := reading{s: s}
	var g api.Grammar
	g.K = r.number(1, 4, api.ErrRange)
	for range r.number(1, 8, api.ErrRange) {
		g.Tokens = append(g.Tokens, r.word())
	}
	g.Sep = r.word()
	for range r.number(1, 8, api.ErrRange) {
		g.Names = append(g.Names, r.word())
	}
	g.Start = 16 + r.number(0, 7, api.ErrRange)
	for range r.number(1, 24, api.ErrRange) {
		prod := api.Prod{Left: 16 + r.number(0, 7, api.ErrRange)}
		for range r.number(0, 6, api.ErrRange) {
			symbol := r.number(0, 15, api.ErrRange)
			if symbol > 7 {
				symbol += 8
			}
			prod.Right = append(prod.Right, symbol)
		}
		g.Prods = append(g.Prods, prod)
	}
	if r.at < len(s) {
		r.fail(api.ErrLong, r.at)
	}
	r.fail(grammar.Check(g), 0)
	if r.fault.Err != api.OK {
		return api.Grammar{}, r.fault
	}
	return g, api.Fault{}
}

// isRead demands that Parse and Is say this of s.
func isRead(t *testing.T, s string, want api.Grammar, fault api.Fault) {
	t.Helper()
	if g, f := canon.Parse(s); plain(g) != plain(want) || f != fault {
		t.Errorf("Parse(%.900x): %s, %v, not %s, %v", s, plain(g), f, plain(want), fault)
	}
	if canon.Is(s) != (fault.Err == api.OK) {
		t.Errorf("Is(%.900x): %v, but %v", s, canon.Is(s), fault)
	}
}

// isRefused demands that s is no canonical form, and that Parse has this fault.
func isRefused(t *testing.T, s string, err api.Errno, n int) {
	t.Helper()
	isRead(t, s, api.Grammar{}, at(err, n))
}

// isWritten demands that Bytes and Fingerprint say this of g.
func isWritten(t *testing.T, g api.Grammar, want string, err api.Errno) {
	t.Helper()
	if s, e := canon.Bytes(g); s != want || e != err {
		t.Errorf("Bytes(%.900s): %x, %v, not %x, %v", plain(g), s, e, want, err)
	}
	var hash uint64
	if err == api.OK {
		hash = hashOf(want)
	}
	if n, e := canon.Fingerprint(g); n != hash || e != err {
		t.Errorf("Fingerprint(%.900s): %x, %v, not %x, %v", plain(g), n, e, hash, err)
	}
}

// bytesOf returns the canonical form of g, which is valid.
func bytesOf(t *testing.T, g api.Grammar) string {
	t.Helper()
	s, e := canon.Bytes(g)
	if e != api.OK {
		t.Fatalf("Bytes(%s): %v", plain(g), e)
	}
	return s
}

// isText demands that OfText says this of s.
func isText(t *testing.T, s, want string, fault api.Fault) {
	t.Helper()
	if x, f := canon.OfText(s); x != want || f != fault {
		t.Errorf("OfText(%.900s): %x, %v, not %x, %v", s, x, f, want, fault)
	}
}

// isEqual demands that Equal says this of a and b.
func isEqual(t *testing.T, a, b string, want bool, fault api.Fault) {
	t.Helper()
	if is, f := canon.Equal(a, b); is != want || f != fault {
		t.Errorf("Equal(%.900s, %.900s): %v, %v, not %v, %v", a, b, is, f, want, fault)
	}
}

// hashOf returns the hash of s, as the standard library has it.
func hashOf(s string) uint64 {
	h := fnv.New64a()
	h.Write([]byte(s))
	return h.Sum64()
}

// printed returns the text of g, which is valid, as source.Print writes it.
func printed(t *testing.T, g api.Grammar) string {
	t.Helper()
	x, e := grammar.Source(g)
	s, f := source.Print(x)
	if e != api.OK || f != api.OK {
		t.Fatalf("%s: %v, %v", plain(g), e, f)
	}
	return s
}

// spaced returns the text s with other blanks and with remarks, at random; where a blank stands, there stands something.
func spaced(r *rand.Rand, s string) string {
	gap := func() string { return pick(r, []string{" ", "\t", "\n", "\r\n", "  ", "#\n", " # S = a; b\n"}) }
	b := []byte(gap())
	for i := range len(s) {
		switch {
		case strings.IndexByte(" \n", s[i]) >= 0:
			b = append(b, gap()...)
		case strings.IndexByte(";,=|", s[i]) >= 0 && r.Intn(3) == 0:
			b = append(b, gap()+s[i:i+1]+gap()...)
		default:
			b = append(b, s[i])
		}
	}
	return string(b) + pick(r, []string{"", "\n", "# end", "#"})
}

// short are those of the grammars whose texts are not too long to be read, with blanks and remarks in them.
func short(t *testing.T) []api.Grammar {
	t.Helper()
	var l []api.Grammar
	for _, g := range grammars() {
		if len(printed(t, g)) < api.MaxSource/5 {
			l = append(l, g)
		}
	}
	if len(l) < 60 {
		t.Fatalf("only %d grammars have short texts", len(l))
	}
	return l
}

// changed returns s with one thing done to its bytes at random.
func changed(r *rand.Rand, s string) string {
	i := r.Intn(len(s))
	some := string([]byte{pick(r, []byte("\x00\x01\x02\x04\x05\x06\x07\x08\x09\x0c\x0d\x0f\x10\x18\x19\x7f\x80\x81\xffazSZ0_ "))})
	switch r.Intn(8) {
	case 0:
		return s[:i]
	case 1:
		return s[:i] + s[i+1:]
	case 2:
		return s[:i] + some + s[i:]
	case 3:
		return s + some
	case 4:
		return s[:i] + string([]byte{s[i] | 0x80, "\x00\x01"[r.Intn(2)]}) + s[i+1:]
	case 5:
		return s[:i] + string([]byte{s[i] + byte(r.Intn(3)) - 1}) + s[i+1:]
	default:
		return s[:i] + some + s[i+1:]
	}
}

// The rows of the examples.
func TestExamples(t *testing.T) {
	isWritten(t, shown(), shownBytes, api.OK)
	isRead(t, shownBytes, shown(), api.Fault{})
	isRefused(t, shownBytes[:5], api.ErrShort, 5)
	isRefused(t, shownBytes+"\x00", api.ErrLong, 17)
	isRefused(t, "\x05", api.ErrRange, 0)
	isRefused(t, "", api.ErrShort, 0)
	isRefused(t, "\x01\x00", api.ErrRange, 1)
	isRefused(t, "\x81\x00", api.ErrVarint, 1)
	if a, b := canon.Hash(""), canon.Hash("a"); a != 0xcbf29ce484222325 || b != 0xaf63dc4c8601ec8c {
		t.Errorf("Hash: %x, %x", a, b)
	}
	isText(t, "S", "", at(api.ErrForm, 0))
	isText(t, shownText, shownBytes, api.Fault{})
	isEqual(t, shownText, shownText+" # a remark", true, api.Fault{})
}

// P12.1: fields one behind the other; the fingerprint is the hash of them.
func TestBytes(t *testing.T) {
	for _, g := range grammars() {
		isWritten(t, g, written(g), api.OK)
	}
	isWritten(t, small(), smallBytes, api.OK)
	g := large()
	begin := "\x04\x08\x0cterminal___0\x0cterminal___1"
	end := "\x17\x07\x06\x01\x09\x01\x09\x01\x09"[1:]
	s := bytesOf(t, g)
	if len(s) != 1+1+8*13+13+1+8*13+1+1+24*8 || !strings.HasPrefix(s, begin) || !strings.HasSuffix(s, end) || !strings.Contains(s, "\x0cseparator_12\x08\x0cNONTERMINAL0") || !strings.Contains(s, "NONTERMINAL7\x07\x18\x00\x06\x00\x08") {
		t.Errorf("%x", s)
	}
}

// P12.1: each terminal and each nonterminal has its number.
func TestNumbersOfSymbols(t *testing.T) {
	for n := range 16 {
		g := large()
		g.Prods[0].Right = []int{n + n/8*8}
		s := bytesOf(t, g)
		if want := "NONTERMINAL7\x07\x18\x00\x01" + string([]byte{byte(n)}) + "\x00\x06"; !strings.Contains(s, want) {
			t.Errorf("%d: %x", n, s)
		}
		isRead(t, s, g, api.Fault{})
	}
}

// P12.1, R1, R3: the error of grammar.Check comes alone.
func TestErrorsOfCheck(t *testing.T) {
	for _, c := range []struct {
		change func(g *api.Grammar)
		err    api.Errno
	}{
		{func(g *api.Grammar) { g.K = 0 }, api.ErrRange},
		{func(g *api.Grammar) { g.K = 5 }, api.ErrRange},
		{func(g *api.Grammar) { *g = api.Grammar{} }, api.ErrRange},
		{func(g *api.Grammar) { g.Prods[0].Right = make([]int, 7) }, api.ErrFull},
		{func(g *api.Grammar) { g.Prods = slices.Repeat(g.Prods, 13) }, api.ErrFull},
		{func(g *api.Grammar) { g.Tokens = nil }, api.ErrShort},
		{func(g *api.Grammar) { g.Names = nil }, api.ErrShort},
		{func(g *api.Grammar) { g.Tokens[0] = "abcdefghijklm" }, api.ErrName},
		{func(g *api.Grammar) { g.Sep = "S" }, api.ErrName},
		{func(g *api.Grammar) { g.Names[0] = "c" }, api.ErrName},
		{func(g *api.Grammar) { g.Sep = "a" }, api.ErrExists},
		{func(g *api.Grammar) { g.Start = 17 }, api.ErrSymbol},
		{func(g *api.Grammar) { g.Start = 15 }, api.ErrSymbol},
		{func(g *api.Grammar) { g.Prods[0].Right[0] = 1 }, api.ErrSymbol},
		{func(g *api.Grammar) { g.Prods[1].Left = 99 }, api.ErrSymbol},
		{func(g *api.Grammar) { g.Names = append(g.Names, "T"); g.Prods[0].Left = 17 }, api.ErrOrder},
		{func(g *api.Grammar) { g.Names = append(g.Names, "T") }, api.ErrMissing},
		{func(g *api.Grammar) { g.Prods = nil }, api.ErrMissing},
	} {
		g := shown()
		c.change(&g)
		if e := grammar.Check(g); e != c.err {
			t.Fatalf("%s: %v", plain(g), e)
		}
		isWritten(t, g, "", c.err)
	}
}

// P12.1: the hash of any string, held against the standard library, and against the words of the terms in numbers of any size.
func TestHash(t *testing.T) {
	for s, want := range map[string]uint64{"": 0xcbf29ce484222325, "a": 0xaf63dc4c8601ec8c, "b": 0xaf63df4c8601f1a5, "foobar": 0x85944171f73967e8, "\x00": 0xaf63bd4c8601b7df, "\xff": 0xaf64724c8602eb6e} {
		if h := canon.Hash(s); h != want {
			t.Errorf("Hash(%q): %x", s, h)
		}
	}
	r := rand.New(rand.NewSource(121))
	prime, all := big.NewInt(1099511628211), new(big.Int).Lsh(big.NewInt(1), 64)
	for range 300 {
		b := make([]byte, r.Intn(60))
		r.Read(b)
		h := new(big.Int).SetUint64(14695981039346656037)
		for _, x := range b {
			h.Xor(h, big.NewInt(int64(x)))
			h.Mul(h, prime).Mod(h, all)
		}
		if n := canon.Hash(string(b)); n != h.Uint64() || n != hashOf(string(b)) {
			t.Errorf("Hash(%x): %x, not %x", b, n, h)
		}
	}
}

// P12.2: the range of each number of the least canonical forms.
func TestRanges(t *testing.T) {
	for _, c := range []struct {
		s               string
		at, least, most int
	}{
		{smallBytes, 0, 1, 4}, {smallBytes, 1, 1, 8}, {smallBytes, 6, 1, 8}, {smallBytes, 9, 0, 7}, {smallBytes, 10, 1, 24}, {smallBytes, 11, 0, 7}, {smallBytes, 12, 0, 6}, {symbolBytes, 13, 0, 15},
	} {
		for n := range 128 {
			s := c.s[:c.at] + string([]byte{byte(n)}) + c.s[c.at+1:]
			if n < c.least || n > c.most {
				isRefused(t, s, api.ErrRange, c.at)
				continue
			}
			if g, f := canon.Parse(s); f == at(api.ErrRange, c.at) {
				t.Errorf("%d at %d: %s, %v", n, c.at, plain(g), f)
			}
		}
		isRefused(t, c.s[:c.at]+"\x80\x01", api.ErrRange, c.at)
		isRefused(t, c.s[:c.at]+"\x81\x02\x00", api.ErrRange, c.at)
		isRefused(t, c.s[:c.at]+strings.Repeat("\xff", 9)+"\x01", api.ErrRange, c.at)
		isRefused(t, c.s[:c.at]+"\x80\x80\x80\x80\x80\x80\x80\x80\x80\x01", api.ErrRange, c.at)
	}
}

// P12.2: strings have at most 12 bytes, of whatever kind.
func TestLengths(t *testing.T) {
	for _, place := range []int{2, 4, 7} {
		for n := range 128 {
			s := smallBytes[:place] + string([]byte{byte(n)}) + strings.Repeat("x", n)
			if n > 12 {
				isRefused(t, s, api.ErrLong, place)
			} else {
				isRefused(t, s, api.ErrShort, len(s))
			}
			if n > 0 && n <= 12 {
				isRefused(t, s[:len(s)-1], api.ErrShort, place+1)
			}
		}
		isRefused(t, smallBytes[:place]+"\x80\x01"+strings.Repeat("x", 128), api.ErrLong, place)
		isRefused(t, smallBytes[:place]+strings.Repeat("\xff", 9)+"\x01x", api.ErrLong, place)
	}
	g := small()
	g.Tokens, g.Sep, g.Names = []string{"abcdefghijkl"}, "zyxwvutsrqpo", []string{"ABCDEFGHIJKL"}
	isRead(t, "\x01\x01\x0cabcdefghijkl\x0czyxwvutsrqpo\x01\x0cABCDEFGHIJKL\x00\x01\x00\x00", g, api.Fault{})
	isRefused(t, "\x01\x01\x0dabcdefghijklm\x0czyxwvutsrqpo\x01\x0cABCDEFGHIJKL\x00\x01\x00\x00", api.ErrLong, 2)
}

// P12.2: each number and each length is a varint.
func TestVarints(t *testing.T) {
	for _, place := range []int{0, 1, 2, 4, 6, 7, 9, 10, 11, 12, 13} {
		begin, n := symbolBytes[:place], symbolBytes[place]
		isRefused(t, begin+string([]byte{n | 0x80, 0})+symbolBytes[place+1:], api.ErrVarint, place+1)
		isRefused(t, begin+"\x80\x80\x00", api.ErrVarint, place+2)
		isRefused(t, begin+strings.Repeat("\xff", 9)+"\x02", api.ErrVarint, place+9)
		isRefused(t, begin+strings.Repeat("\xff", 11), api.ErrVarint, place+9)
		isRefused(t, begin+strings.Repeat("\xff", 9), api.ErrShort, place+9)
		isRefused(t, begin+"\x81", api.ErrShort, place+1)
		isRefused(t, begin, api.ErrShort, place)
	}
}

// P12.2: the error of grammar.Check comes last, at 0.
func TestFormsOfWrongGrammars(t *testing.T) {
	for _, c := range []struct {
		s   string
		err api.Errno
	}{
		{"\x01\x01\x00\x01z\x01\x01S\x00\x01\x00\x00", api.ErrName},
		{"\x01\x01\x01a\x00\x01\x01S\x00\x01\x00\x00", api.ErrName},
		{"\x01\x01\x01a\x01z\x01\x00\x00\x01\x00\x00", api.ErrName},
		{"\x01\x01\x01A\x01z\x01\x01S\x00\x01\x00\x00", api.ErrName},
		{"\x01\x01\x01a\x01z\x01\x01s\x00\x01\x00\x00", api.ErrName},
		{"\x01\x01\x05token\x01z\x01\x01S\x00\x01\x00\x00", api.ErrName},
		{"\x01\x01\x01\xff\x01z\x01\x01S\x00\x01\x00\x00", api.ErrName},
		{"\x01\x01\x01a\x01a\x01\x01S\x00\x01\x00\x00", api.ErrExists},
		{"\x01\x02\x01a\x01a\x01z\x01\x01S\x00\x01\x00\x00", api.ErrExists},
		{"\x01\x01\x01a\x01z\x02\x01S\x01S\x00\x02\x00\x00\x01\x00", api.ErrExists},
		{"\x01\x01\x01a\x01z\x01\x01S\x01\x01\x00\x00", api.ErrSymbol},
		{"\x01\x01\x01a\x01z\x01\x01S\x00\x01\x01\x00", api.ErrSymbol},
		{"\x01\x01\x01a\x01z\x01\x01S\x00\x01\x00\x01\x01", api.ErrSymbol},
		{"\x01\x01\x01a\x01z\x01\x01S\x00\x01\x00\x01\x07", api.ErrSymbol},
		{"\x01\x01\x01a\x01z\x01\x01S\x00\x01\x00\x01\x09", api.ErrSymbol},
		{"\x01\x01\x01a\x01z\x01\x01S\x00\x01\x00\x01\x0f", api.ErrSymbol},
		{"\x01\x01\x01a\x01z\x02\x01S\x01T\x00\x02\x01\x00\x00\x00", api.ErrOrder},
		{"\x01\x01\x01a\x01z\x02\x01S\x01T\x00\x01\x00\x00", api.ErrMissing},
		{"\x01\x01\x01a\x01z\x02\x01S\x01T\x00\x01\x01\x00", api.ErrMissing},
	} {
		isRefused(t, c.s, c.err, 0)
		// What is left, and what is wrong with a field, comes before that.
		isRefused(t, c.s+"\x00", api.ErrLong, len(c.s))
		isRefused(t, c.s[:len(c.s)-1], api.ErrShort, len(c.s)-1)
	}
}

// R1: of several faults the first one is told.
func TestFirstFault(t *testing.T) {
	isRefused(t, "\x05\x09", api.ErrRange, 0)
	isRefused(t, "\x01\x09\x80\x00", api.ErrRange, 1)
	isRefused(t, "\x01\x01\x0d\x80\x00", api.ErrLong, 2)
	isRefused(t, "\x01\x01\x01a\x0d\x01z", api.ErrLong, 4)
	isRefused(t, "\x01\x01\x01a\x01z\x00\x00\x80\x00", api.ErrRange, 6)
	isRefused(t, "\x01\x01\x01a\x01z\x01\x01S\x08\x00", api.ErrRange, 9)
	isRefused(t, "\x01\x01\x01a\x01z\x01\x01S\x00\x19\x08", api.ErrRange, 10)
	isRefused(t, "\x01\x01\x01a\x01z\x01\x01S\x00\x01\x08\x07", api.ErrRange, 11)
	isRefused(t, "\x01\x01\x01a\x01z\x01\x01S\x00\x01\x00\x07\x10", api.ErrRange, 12)
	isRefused(t, "\x01\x01\x01a\x01z\x01\x01S\x00\x01\x00\x02\x10\x11", api.ErrRange, 13)
	isRefused(t, "\x01\x01\x01a\x01z\x01\x01S\x00\x02\x00\x01\x10\x08", api.ErrRange, 13)
}

// P12.2: canonical forms, and what becomes of them when bytes are changed, held against a second way.
func TestParse(t *testing.T) {
	r := rand.New(rand.NewSource(122))
	count, forms := map[api.Errno]int{}, 0
	for _, g := range grammars() {
		s := written(g)
		isRead(t, s, g, api.Fault{})
		for range 200 {
			x := changed(r, s)
			if r.Intn(3) == 0 {
				x = changed(r, x+"\x00")
			}
			h, f := want(x)
			isRead(t, x, h, f)
			count[f.Err]++
			if f.Err == api.OK && x != s {
				forms++
				isWritten(t, h, x, api.OK)
			}
		}
	}
	for _, e := range []api.Errno{api.OK, api.ErrRange, api.ErrLong, api.ErrShort, api.ErrVarint, api.ErrMissing, api.ErrExists, api.ErrOrder, api.ErrName, api.ErrSymbol} {
		if count[e] < 5 {
			t.Errorf("the strings are too much alike: %v", count)
		}
	}
	if forms < 1000 {
		t.Errorf("only %d other canonical forms", forms)
	}
}

// P12.2 (and P1): all strings of at most two bytes, and all of some bytes behind the names of a canonical form.
func TestAllStrings(t *testing.T) {
	hold := func(s string) {
		g, f := want(s)
		isRead(t, s, g, f)
	}
	for a := range 256 {
		hold(string([]byte{byte(a)}))
		for b := range 256 {
			hold(string([]byte{byte(a), byte(b)}))
		}
	}
	forms := 0
	for _, begin := range []string{"\x02\x01\x01a\x01z\x01\x01S", "\x02\x01\x01a\x01z\x02\x01S\x01T"} {
		tails := []string{""}
		for range 6 {
			var longer []string
			for _, tail := range tails {
				for _, b := range []byte("\x00\x01\x02\x08\x09\x80") {
					longer = append(longer, tail+string([]byte{b}))
				}
			}
			for _, tail := range longer {
				hold(begin + tail)
				if canon.Is(begin + tail) {
					forms++
				}
			}
			tails = longer
		}
	}
	if forms != 10 {
		t.Errorf("%d canonical forms", forms)
	}
}

// P12.2: a string that is longer than any that codec reads counts as codec says.
func TestLongStrings(t *testing.T) {
	isRefused(t, shownBytes+strings.Repeat("\x00", 20000-17), api.ErrLong, 17)
	isRefused(t, strings.Repeat("\x00", 20000), api.ErrRange, 0)
	for _, n := range []int{20001, 20002, 1 << 20} {
		isRefused(t, strings.Repeat("\x00", n), api.ErrState, 0)
		isRefused(t, shownBytes+strings.Repeat("\x00", n-17), api.ErrState, 0)
	}
}

// P12.3: the faults of source.Parse, and the canonical forms of texts.
func TestOfText(t *testing.T) {
	for _, s := range []string{
		"", ";", "S", "lookahead", "lookahead 5;", "lookahead 02;", "lookahead 1; token A;", "lookahead 1; token a, a;", "lookahead 1; token a; separator a;", "lookahead 1; token a; separator token;",
		"lookahead 1; token a; separator b; start S;", "lookahead 1; token a; separator b; start S; S = b;", "lookahead 1; token a; separator b; start T; S = a;", "lookahead 1; token a; separator b; start S; S = c;",
		"lookahead 1; token a; separator b; start S; S = a a a a a a a;", shownText + "$", shownText + " S = ;", shownText[:len(shownText)-1], shownText + strings.Repeat(" ", api.MaxSource), strings.Repeat("x", api.MaxSource), shownBytes,
	} {
		x, f := source.Parse(s)
		if f.Err == api.OK {
			t.Fatalf("%s: %v", s, x)
		}
		isText(t, s, "", f)
		isEqual(t, s, shownText, false, f)
		isEqual(t, s, s, false, f)
		isEqual(t, s, "", false, f)
		isEqual(t, shownText, s, false, at(f.Err, len(shownText)+f.At))
	}
	isText(t, "lookahead 9;", "", at(api.ErrRange, 10))
	isText(t, shownText+strings.Repeat(" ", api.MaxSource-len(shownText)), shownBytes, api.Fault{})
	isText(t, shownText+strings.Repeat(" ", api.MaxSource-len(shownText)+1), "", at(api.ErrLong, api.MaxSource))
	texts := 0
	for _, g := range grammars() {
		s := printed(t, g)
		if len(s) > api.MaxSource {
			isText(t, s, "", at(api.ErrLong, api.MaxSource))
			continue
		}
		texts++
		isText(t, s, written(g), api.Fault{})
	}
	if texts < 250 {
		t.Errorf("only %d texts", texts)
	}
}

// P12.3: the fault of the first text comes first; that of the second one is told behind the first one.
func TestEqual(t *testing.T) {
	isEqual(t, "", "", false, at(api.ErrShort, 0))
	isEqual(t, "lookahead 9;", "$", false, at(api.ErrRange, 10))
	isEqual(t, shownText, "lookahead 9;", false, at(api.ErrRange, len(shownText)+10))
	isEqual(t, shownText+"\n", "", false, at(api.ErrShort, len(shownText)+1))
	isEqual(t, shownText, shownText, true, api.Fault{})
	l := short(t)[:60]
	for i, a := range l {
		s := printed(t, a)
		for j, b := range l {
			isEqual(t, s, printed(t, b), i == j, api.Fault{})
		}
	}
	for _, a := range l[:12] {
		s := printed(t, a)
		for _, b := range near(a) {
			isEqual(t, s, printed(t, b), false, api.Fault{})
			isEqual(t, printed(t, b), s, false, api.Fault{})
		}
	}
	// That the names of the alternatives are others is a difference, that they come in another order, too.
	isEqual(t, shownText, "lookahead 1; token a; separator b; start S; S = | a S ;", false, api.Fault{})
	isEqual(t, shownText, "lookahead 1; token b; separator a; start S; S = b S | ;", false, api.Fault{})
	isEqual(t, shownText, "lookahead 1; token a; separator b; start T; T = a T | ;", false, api.Fault{})
}

// P12.4: what is written is read again, and what is read is written again.
func TestThereAndBack(t *testing.T) {
	for i, g := range grammars() {
		s := bytesOf(t, g)
		isRead(t, s, g, api.Fault{})
		h, _ := canon.Parse(s)
		isWritten(t, h, s, api.OK)
		if i < 40 {
			for _, h := range near(g) {
				isRead(t, bytesOf(t, h), h, api.Fault{})
			}
		}
	}
}

// P12.5: canonical forms are equal exactly if grammars are.
func TestFormsAreDifferent(t *testing.T) {
	all := map[string]string{}
	pairs := 0
	for i, g := range grammars() {
		l := []api.Grammar{g, clone(g)}
		if i < 40 {
			l = append(l, near(g)...)
		}
		s := bytesOf(t, g)
		for _, h := range l {
			x := bytesOf(t, h)
			if (x == s) != grammar.Same(g, h) {
				t.Errorf("%s and %s: %x, %x", plain(g), plain(h), s, x)
			}
			if all[x] != "" && all[x] != plain(h) {
				t.Errorf("%s and %s: %x", all[x], plain(h), x)
			}
			all[x] = plain(h)
			pairs++
		}
	}
	if pairs < 3000 || len(all) < 2000 {
		t.Errorf("only %d pairs, %d grammars", pairs, len(all))
	}
}

// P12.6: what is cut off is ErrShort, and no canonical form is the beginning of another one.
func TestCutOff(t *testing.T) {
	var all []string
	for i, g := range grammars() {
		s := bytesOf(t, g)
		all = append(all, s)
		if i < 40 {
			for _, h := range near(g) {
				all = append(all, bytesOf(t, h))
			}
		}
		for n := range len(s) {
			h, f := canon.Parse(s[:n])
			if f.Err != api.ErrShort || f.At > n || plain(h) != plain(api.Grammar{}) {
				t.Errorf("%x: %s, %v", s[:n], plain(h), f)
			}
		}
		for _, more := range []string{"\x00", "\x01", "\x80", "a", s, "\x00\x00", s[1:], strings.Repeat("\xff", 12)} {
			isRefused(t, s+more, api.ErrLong, len(s))
		}
	}
	slices.Sort(all)
	all = slices.Compact(all)
	for i, s := range all[1:] {
		if strings.HasPrefix(s, all[i]) {
			t.Errorf("%x begins with %x", s, all[i])
		}
	}
	if len(all) < 2000 {
		t.Errorf("only %d canonical forms", len(all))
	}
}

// P12.7: blanks and remarks change nothing, and what source.Print writes has the same canonical form.
func TestBlanksAndRemarks(t *testing.T) {
	r := rand.New(rand.NewSource(127))
	for _, g := range short(t) {
		a := printed(t, g)
		for range 5 {
			b := spaced(r, a)
			isText(t, b, written(g), api.Fault{})
			isEqual(t, a, b, true, api.Fault{})
			isEqual(t, b, a, true, api.Fault{})
			x, f := source.Parse(b)
			s, e := source.Print(x)
			if s != a || f != (api.Fault{}) || e != api.OK {
				t.Errorf("%s: %s, %v, %v", b, s, f, e)
			}
		}
	}
}

// P12.8: a byte more is joined with the hash, which is then multiplied.
func TestHashByHash(t *testing.T) {
	r := rand.New(rand.NewSource(128))
	for _, g := range grammars() {
		s := bytesOf(t, g)
		for range 5 {
			b := byte(r.Intn(256))
			if n := canon.Hash(s + string([]byte{b})); n != (canon.Hash(s)^uint64(b))*1099511628211 {
				t.Errorf("%x and %x: %x", s, b, n)
			}
		}
	}
	for b := range 256 {
		if n := canon.Hash(string([]byte{byte(b)})); n != (0xcbf29ce484222325^uint64(b))*1099511628211 {
			t.Errorf("%x: %x", b, n)
		}
	}
}

// R4: arguments stay as they are, and so does the room behind their slices.
func TestArgumentsStay(t *testing.T) {
	for _, g := range grammars() {
		h := clone(g)
		h.Tokens, h.Names, h.Prods = append(h.Tokens, "room"), append(h.Names, "Room"), append(h.Prods, api.Prod{Left: 99, Right: []int{7}})
		for i, prod := range h.Prods {
			h.Prods[i].Right = append(prod.Right, 77)
		}
		before := plain(h)
		x := g
		x.Tokens, x.Names, x.Prods = h.Tokens[:len(g.Tokens)], h.Names[:len(g.Names)], slices.Clone(h.Prods[:len(g.Prods)])
		for i, prod := range x.Prods {
			x.Prods[i].Right = prod.Right[:len(prod.Right)-1]
		}
		isWritten(t, x, written(g), api.OK)
		if plain(h) != before || plain(x) != plain(g) {
			t.Errorf("%s became %s", before, plain(h))
		}
	}
}

// R4: no two results, and no two lists of one result, share memory.
func TestNothingIsShared(t *testing.T) {
	for _, g := range grammars() {
		s := written(g)
		x, _ := canon.Parse(s)
		y, _ := canon.Parse(s)
		spoil(&x)
		if plain(y) != plain(g) {
			t.Errorf("%s became %s", plain(g), plain(y))
		}
		isRead(t, s, g, api.Fault{})
		isOther := func(name string) func(string) bool { return func(s string) bool { return s != name } }
		if slices.ContainsFunc(x.Tokens, isOther("token")) || slices.ContainsFunc(x.Names, isOther("Name")) {
			t.Errorf("names are shared: %s", plain(x))
		}
		for p, prod := range x.Prods {
			for _, symbol := range prod.Right {
				if symbol != 100+p {
					t.Errorf("right sides are shared: %s", plain(x))
				}
			}
		}
	}
}

// spoil changes all elements of all lists of g, and the room behind them.
func spoil(g *api.Grammar) {
	for i := range g.Tokens[:cap(g.Tokens)] {
		g.Tokens[:cap(g.Tokens)][i] = "token"
	}
	for i := range g.Names[:cap(g.Names)] {
		g.Names[:cap(g.Names)][i] = "Name"
	}
	for p, prod := range g.Prods {
		for i := range prod.Right[:cap(prod.Right)] {
			prod.Right[:cap(prod.Right)][i] = 100 + p
		}
	}
}

// R4: nil lists and empty ones are equal.
func TestNilAndEmpty(t *testing.T) {
	for _, none := range [][]int{nil, {}} {
		g := shown()
		g.Prods[1].Right = none
		isWritten(t, g, shownBytes, api.OK)
	}
	for _, none := range [][]string{nil, {}} {
		g := shown()
		g.Tokens = none
		isWritten(t, g, "", api.ErrShort)
		g = shown()
		g.Names = none
		isWritten(t, g, "", api.ErrShort)
	}
	for _, none := range [][]api.Prod{nil, {}} {
		g := shown()
		g.Prods = none
		isWritten(t, g, "", api.ErrMissing)
	}
}

// R6: the same argument leads to the same result each time.
func TestAgain(t *testing.T) {
	for _, g := range grammars()[:40] {
		s := bytesOf(t, g)
		for range 3 {
			isWritten(t, clone(g), s, api.OK)
			isRead(t, s, g, api.Fault{})
			isRefused(t, s+"\x00", api.ErrLong, len(s))
		}
	}
}

// P1, R5: no argument is too great or too strange.
func TestAllArgumentsAreTaken(t *testing.T) {
	for _, n := range strange {
		g := shown()
		g.K = n
		isWritten(t, g, "", api.ErrRange)
		g = shown()
		g.Start = n
		isWritten(t, g, "", api.ErrSymbol)
		g = shown()
		g.Prods[1].Left = n
		isWritten(t, g, "", api.ErrSymbol)
		g = shown()
		g.Prods[0].Right[1] = n
		isWritten(t, g, "", api.ErrSymbol)
	}
	long := strings.Repeat("a", 1<<20)
	g := shown()
	g.Tokens[0] = long
	isWritten(t, g, "", api.ErrName)
	g = shown()
	g.Prods = make([]api.Prod, 1<<20)
	isWritten(t, g, "", api.ErrFull)
	g = shown()
	g.Tokens = make([]string, 1<<20)
	isWritten(t, g, "", api.ErrFull)
	isText(t, long, "", at(api.ErrLong, api.MaxSource))
	isEqual(t, shownText, long, false, at(api.ErrLong, len(shownText)+api.MaxSource))
	if n := canon.Hash(long); n != hashOf(long) {
		t.Errorf("Hash: %x", n)
	}
}
