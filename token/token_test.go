package token_test

import (
	"encoding/hex"
	"math"
	"math/rand"
	"slices"
	"strings"
	"testing"

	"stenotype/api"
	"stenotype/token"
	"stenotype/varint"
)

const (
	// mostTerms is how many terminals there may be.
	mostTerms = 8
	// longest is how many bytes a text may have.
	longest = 24
	// last is the greatest offset.
	last = 1 << 40
	// most is how many tokens a list may have.
	most = 1000
)

// The tokens of the examples, for two terminals.
var (
	aHi = api.Token{Symbol: 0, Text: "hi"}
	b   = api.Token{Symbol: 1}
	sep = api.Token{Symbol: 2}
)

// moved returns the token t at the offset at.
func moved(t api.Token, at int) api.Token {
	t.At = at
	return t
}

// fromHex returns the bytes that the document writes as hexadecimal numbers.
func fromHex(t *testing.T, s string) string {
	t.Helper()
	x, err := hex.DecodeString(strings.ReplaceAll(s, " ", ""))
	if err != nil {
		t.Fatal(err)
	}
	return string(x)
}

// numbers are numbers of all sizes, and those at the bounds.
func numbers() []int {
	l := []int{math.MinInt, math.MinInt + 1, math.MaxInt - 1, math.MaxInt, last - 1, last, last + 1, -last, 1 << 32, 1<<32 + 1, -1 << 32, 127, 128, 129, 255, 256, 257}
	for n := range 30 {
		l = append(l, n, -n)
	}
	return l
}

// texts are texts of all lengths, with all bytes, also such as could be those of frames.
func texts() []string {
	var l []string
	for n := range longest + 1 {
		l = append(l, strings.Repeat("x", n), strings.Repeat("\x00", n), strings.Repeat("\xff", n))
		var mixed []byte
		for i := range n {
			mixed = append(mixed, byte(37*i+11*n))
		}
		l = append(l, string(mixed))
	}
	return append(l, "é", "\x00\x02hi", "\x08\x18", "\n", "a\x00b")
}

// rightTokens are right tokens for so many terminals, of many kinds.
func rightTokens(terms int) []api.Token {
	var l []api.Token
	for symbol := range terms + 1 {
		for i, s := range texts() {
			l = append(l, api.Token{Symbol: symbol, Text: s, At: []int{0, 1, 7, 127, 128, 1 << 32, last - 1, last}[i%8]})
		}
	}
	return l
}

// wantCheck returns what Check must say of t.
func wantCheck(t api.Token, terms int) api.Errno {
	switch {
	case terms < 1, terms > mostTerms:
		return api.ErrRange
	case t.Symbol < 0, t.Symbol > terms:
		return api.ErrSymbol
	case len(t.Text) > longest:
		return api.ErrLong
	case t.At < 0, t.At > last:
		return api.ErrRange
	}
	return api.OK
}

// wantCheckAll returns what is said of the first token of l that is wrong.
func wantCheckAll(l []api.Token, terms int) api.Errno {
	if len(l) > most {
		return api.ErrFull
	}
	for _, t := range l {
		if e := wantCheck(t, terms); e != api.OK {
			return e
		}
	}
	return api.OK
}

// wantFrame returns the frame of a token that is right.
func wantFrame(t api.Token) string {
	return string([]byte{byte(t.Symbol), byte(len(t.Text))}) + t.Text
}

// wantRead returns the error of reading the frame with which s begins, or its token and its length.
func wantRead(s string, terms int) (api.Token, int, api.Errno) {
	for i, c := range []struct {
		most    int
		tooMuch api.Errno
	}{{terms, api.ErrSymbol}, {longest, api.ErrLong}} {
		switch {
		case len(s) <= i:
			return api.Token{}, 0, api.ErrShort
		case s[i] >= 128:
			return api.Token{}, 0, api.ErrVarint
		case int(s[i]) > c.most:
			return api.Token{}, 0, c.tooMuch
		}
	}
	used := 2 + int(s[1])
	if used > len(s) {
		return api.Token{}, 0, api.ErrShort
	}
	return api.Token{Symbol: int(s[0]), Text: s[2:used]}, used, api.OK
}

// checkReading holds Read and Begins of s against what they must return.
func checkReading(t *testing.T, s string, terms, at int) {
	t.Helper()
	x, used, e := wantRead(s, terms)
	want := api.Fault{}
	if e == api.OK {
		x.At = at
	} else {
		want = api.Fault{Err: e, At: at}
	}
	if got, n, f := token.Read(s, terms, at); got != x || n != used || f != want {
		t.Fatalf("Read(%x, %d, %d) = %v, %d, %v; want %v, %d, %v", s, terms, at, got, n, f, x, used, want)
	}
	short := e == api.ErrShort
	if short {
		e = api.OK
	}
	if is, f := token.Begins(s, terms); is != short || f != e {
		t.Fatalf("Begins(%x, %d) = %v, %v; want %v, %v", s, terms, is, f, short, e)
	}
}

// mustBytes returns the frame of a token that is right.
func mustBytes(t *testing.T, x api.Token, terms int) string {
	t.Helper()
	s, e := token.Bytes(x, terms)
	if e != api.OK {
		t.Fatalf("Bytes(%v, %d): %v", x, terms, e)
	}
	return s
}

// mustPlace returns the tokens of l from at on, for which there is room.
func mustPlace(t *testing.T, l []api.Token, terms, at int) []api.Token {
	t.Helper()
	p, e := token.Place(l, terms, at)
	if e != api.OK || len(p) != len(l) {
		t.Fatalf("Place(%v, %d, %d) = %v, %v", l, terms, at, p, e)
	}
	return p
}

// randomTokens returns n tokens for so many terminals, each at an offset of its own.
func randomTokens(r *rand.Rand, n, terms int) []api.Token {
	all := texts()
	var l []api.Token
	for range n {
		l = append(l, api.Token{Symbol: r.Intn(terms + 1), Text: all[r.Intn(len(all))], At: r.Intn(last)})
	}
	return l
}

// P7.1, with the first row of the examples.
func TestBytesAndSize(t *testing.T) {
	for _, c := range []struct {
		x    api.Token
		want string
	}{{aHi, "00 02 68 69"}, {sep, "02 00"}, {b, "01 00"}, {moved(aHi, last), "00 02 68 69"}} {
		want := fromHex(t, c.want)
		if s, e := token.Bytes(c.x, 2); s != want || e != api.OK || token.Size(c.x) != len(want) {
			t.Errorf("Bytes(%v) = %x, %v; Size = %d; want %x", c.x, s, e, token.Size(c.x), want)
		}
	}
	if n := token.Size(aHi); n != 4 {
		t.Errorf("Size(a hi) = %d", n)
	}
	for terms := 1; terms <= mostTerms; terms++ {
		for _, x := range rightTokens(terms) {
			if s, e := token.Bytes(x, terms); s != wantFrame(x) || e != api.OK || token.Size(x) != len(s) {
				t.Errorf("Bytes(%v, %d) = %x, %v; Size = %d", x, terms, s, e, token.Size(x))
			}
		}
	}
	// Both bytes before the text are canonical varints.
	for symbol := range mostTerms + 1 {
		for n := range longest + 1 {
			s := mustBytes(t, api.Token{Symbol: symbol, Text: strings.Repeat("x", n)}, mostTerms)
			if want := varint.Bytes(uint64(symbol)) + varint.Bytes(uint64(n)); s[:2] != want {
				t.Errorf("%x begins with %x, want %x", s, s[:2], want)
			}
		}
	}
}

// P7.1: any token has a size, be it right or not.
func TestSizeOfAnyToken(t *testing.T) {
	for _, n := range []int{0, 1, 24, 25, 26, 127, 128, 300, 16384, 1 << 20} {
		for _, other := range numbers() {
			x := api.Token{Symbol: other, Text: strings.Repeat("x", n), At: other}
			if got := token.Size(x); got != 2+n {
				t.Fatalf("Size of a token with %d bytes = %d", n, got)
			}
		}
	}
}

// P7.1, with the sixth and the last row of the examples.
func TestCheckAndSeparates(t *testing.T) {
	for _, c := range []struct {
		x     api.Token
		terms int
		e     api.Errno
	}{
		{api.Token{Symbol: 3}, 2, api.ErrSymbol},
		{api.Token{Text: strings.Repeat("x", 25)}, 2, api.ErrLong},
		{moved(b, -1), 2, api.ErrRange},
		{aHi, 0, api.ErrRange},
		{aHi, 1, api.OK},
		{api.Token{Symbol: 8, Text: strings.Repeat("x", 24), At: last}, 8, api.OK},
		{api.Token{Symbol: 9, Text: strings.Repeat("x", 24), At: last}, 8, api.ErrSymbol},
		{api.Token{Symbol: 8, Text: strings.Repeat("x", 25), At: last}, 8, api.ErrLong},
		{api.Token{Symbol: 8, Text: strings.Repeat("x", 24), At: last + 1}, 8, api.ErrRange},
		{api.Token{Symbol: 8}, 9, api.ErrRange},
		// The Symbol counts before the Text, the Text before At, and the number of terminals before all of them.
		{api.Token{Symbol: -1, Text: strings.Repeat("x", 25), At: -1}, 2, api.ErrSymbol},
		{api.Token{Symbol: 2, Text: strings.Repeat("x", 25), At: -1}, 2, api.ErrLong},
		{api.Token{Symbol: -1, Text: strings.Repeat("x", 25)}, 9, api.ErrRange},
		{api.Token{Symbol: -1, Text: strings.Repeat("x", 25)}, 0, api.ErrRange},
		// A text has bytes, not runes.
		{api.Token{Text: strings.Repeat("é", 12)}, 2, api.OK},
		{api.Token{Text: strings.Repeat("é", 13)}, 2, api.ErrLong},
	} {
		if e := token.Check(c.x, c.terms); e != c.e {
			t.Errorf("Check(%v, %d) = %v, want %v", c.x, c.terms, e, c.e)
		}
	}
	for _, c := range []struct {
		x     api.Token
		terms int
		want  bool
	}{
		{sep, 2, true}, {b, 2, false}, {sep, 3, false}, {b, 1, true}, {sep, 1, false}, {aHi, 1, false},
		{api.Token{Symbol: 2, Text: "hi", At: 9}, 2, true}, {api.Token{Symbol: 8}, 8, true},
		// What is not right is no separator.
		{moved(sep, -1), 2, false}, {moved(sep, last+1), 2, false}, {api.Token{Symbol: 2, Text: strings.Repeat("x", 25)}, 2, false},
		{api.Token{}, 0, false}, {api.Token{Symbol: 9}, 9, false}, {api.Token{Symbol: -1}, -1, false},
	} {
		if got := token.Separates(c.x, c.terms); got != c.want {
			t.Errorf("Separates(%v, %d) = %v", c.x, c.terms, got)
		}
	}
}

// P7.1: tokens that are right or wrong in all ways at once (R1, R3 and R5).
func TestCheckOfAll(t *testing.T) {
	seen := map[api.Errno]int{}
	for _, terms := range numbers() {
		for _, symbol := range numbers() {
			for _, n := range []int{0, 1, 23, 24, 25, 26, 128, 300} {
				for _, at := range numbers() {
					x := api.Token{Symbol: symbol, Text: strings.Repeat("x", n), At: at}
					want, frame := wantCheck(x, terms), ""
					if want == api.OK {
						frame = wantFrame(x)
					}
					seen[want]++
					if e := token.Check(x, terms); e != want {
						t.Fatalf("Check(%v, %d) = %v, want %v", x, terms, e, want)
					}
					if s, e := token.Bytes(x, terms); s != frame || e != want {
						t.Fatalf("Bytes(%v, %d) = %x, %v; want %x, %v", x, terms, s, e, frame, want)
					}
					if got := token.Separates(x, terms); got != (want == api.OK && symbol == terms) {
						t.Fatalf("Separates(%v, %d) = %v", x, terms, got)
					}
				}
			}
		}
	}
	for _, e := range []api.Errno{api.OK, api.ErrRange, api.ErrSymbol, api.ErrLong} {
		if seen[e] < 1000 {
			t.Errorf("only %d tokens with %v", seen[e], e)
		}
	}
}

// P7.2, with the second, the third and the fourth row of the examples.
func TestRead(t *testing.T) {
	for _, c := range []struct {
		s    string
		at   int
		x    api.Token
		used int
		f    api.Fault
	}{
		{"00 02 68 69 00", 7, moved(aHi, 7), 4, api.Fault{}},
		{"00 02 68", 7, api.Token{}, 0, api.Fault{Err: api.ErrShort, At: 7}},
		{"", 7, api.Token{}, 0, api.Fault{Err: api.ErrShort, At: 7}},
		{"03", 7, api.Token{}, 0, api.Fault{Err: api.ErrSymbol, At: 7}},
		{"00 19", 7, api.Token{}, 0, api.Fault{Err: api.ErrLong, At: 7}},
		{"80", 0, api.Token{}, 0, api.Fault{Err: api.ErrVarint}},
		{"80 01", 0, api.Token{}, 0, api.Fault{Err: api.ErrVarint}},
		{"00 80", 0, api.Token{}, 0, api.Fault{Err: api.ErrVarint}},
		{"00 98 01", 0, api.Token{}, 0, api.Fault{Err: api.ErrVarint}},
		{"00", 9, api.Token{}, 0, api.Fault{Err: api.ErrShort, At: 9}},
		{"02 00", 9, moved(sep, 9), 2, api.Fault{}},
		{"01 00 80", 9, moved(b, 9), 2, api.Fault{}},
		// The first byte counts before the second one.
		{"03 80", 9, api.Token{}, 0, api.Fault{Err: api.ErrSymbol, At: 9}},
		{"80 19", 9, api.Token{}, 0, api.Fault{Err: api.ErrVarint, At: 9}},
		// The fault is where the frame begins, also at the last offset of all; the frame may end behind that.
		{"00 80", last, api.Token{}, 0, api.Fault{Err: api.ErrVarint, At: last}},
		{"00 02 68", last, api.Token{}, 0, api.Fault{Err: api.ErrShort, At: last}},
		{"00 02 68 69", last, moved(aHi, last), 4, api.Fault{}},
	} {
		if x, used, f := token.Read(fromHex(t, c.s), 2, c.at); x != c.x || used != c.used || f != c.f {
			t.Errorf("Read(%s, 2, %d) = %v, %d, %v; want %v, %d, %v", c.s, c.at, x, used, f, c.x, c.used, c.f)
		}
	}
}

// P7.2: the bounds of the numbers count before the bytes, and the fault is at 0 then.
func TestReadOutOfRange(t *testing.T) {
	for _, terms := range numbers() {
		for _, at := range numbers() {
			for _, s := range []string{"\x00\x02hi", "", "\x00", "\xff", "\x00\xff", "\x09\x00"} {
				if terms >= 1 && terms <= mostTerms && at >= 0 && at <= last {
					checkReading(t, s, terms, at)
					continue
				}
				if x, used, f := token.Read(s, terms, at); x != (api.Token{}) || used != 0 || f != (api.Fault{Err: api.ErrRange}) {
					t.Fatalf("Read(%x, %d, %d) = %v, %d, %v", s, terms, at, x, used, f)
				}
			}
		}
	}
}

// P7.3, with the fifth row of the examples.
func TestBegins(t *testing.T) {
	for _, c := range []struct {
		s     string
		terms int
		is    bool
		e     api.Errno
	}{
		{"00 02 68", 2, true, api.OK}, {"00 00", 2, false, api.OK}, {"", 2, true, api.OK}, {"03", 2, false, api.ErrSymbol}, {"", 9, false, api.ErrRange},
		{"00", 2, true, api.OK}, {"00 01", 2, true, api.OK}, {"00 01 00", 2, false, api.OK}, {"00 01 00 00", 2, false, api.OK}, {"02 18", 2, true, api.OK},
		{"03", 3, true, api.OK}, {"00 19", 2, false, api.ErrLong}, {"80", 2, false, api.ErrVarint}, {"00 80", 2, false, api.ErrVarint},
		{"03 00", 0, false, api.ErrRange}, {"80", 9, false, api.ErrRange}, {"00 00", 0, false, api.ErrRange}, {"00 00", 9, false, api.ErrRange},
		// A whole frame is none, whatever follows.
		{"00 00 80", 2, false, api.OK}, {"00 00 03", 2, false, api.OK},
	} {
		if is, e := token.Begins(fromHex(t, c.s), c.terms); is != c.is || e != c.e {
			t.Errorf("Begins(%s, %d) = %v, %v; want %v, %v", c.s, c.terms, is, e, c.is, c.e)
		}
	}
	for _, terms := range numbers() {
		if terms >= 1 && terms <= mostTerms {
			continue
		}
		for _, s := range []string{"", "\x00", "\x00\x00", "\xff", "\x00\xff"} {
			if is, e := token.Begins(s, terms); is || e != api.ErrRange {
				t.Errorf("Begins(%x, %d) = %v, %v", s, terms, is, e)
			}
		}
	}
}

// P7.2 and P7.3: all frames by their first two bytes, with texts that are too short, just enough, and too long.
func TestReadingOfAll(t *testing.T) {
	for terms := 1; terms <= mostTerms; terms++ {
		checkReading(t, "", terms, 5)
		for x := range 256 {
			checkReading(t, string([]byte{byte(x)}), terms, 5)
			for y := range 256 {
				for _, n := range []int{0, 1, y - 1, y, y + 1} {
					s := string([]byte{byte(x), byte(y)}) + strings.Repeat("\x80", max(n, 0))
					checkReading(t, s, terms, 256*x+y)
				}
			}
		}
	}
}

// P7.4, with the seventh row of the examples.
func TestListAndPlace(t *testing.T) {
	if s, e := token.List([]api.Token{aHi, sep}, 2); s != fromHex(t, "00 02 68 69 02 00") || e != api.OK {
		t.Errorf("List(a hi and the separator) = %x, %v", s, e)
	}
	p, e := token.Place([]api.Token{aHi, b}, 2, 5)
	if !slices.Equal(p, []api.Token{moved(aHi, 5), moved(b, 9)}) || e != api.OK {
		t.Errorf("Place(a hi and b, 2, 5) = %v, %v", p, e)
	}
	// Neither asks whether the tokens are placed.
	l := []api.Token{moved(b, 9), moved(aHi, 3), moved(sep, 9), moved(aHi, last), moved(b, 0)}
	if s, e := token.List(l, 2); s != "\x01\x00\x00\x02hi\x02\x00\x00\x02hi\x01\x00" || e != api.OK {
		t.Errorf("%x, %v", s, e)
	}
	p, e = token.Place(l, 2, 100)
	if !slices.Equal(p, []api.Token{moved(b, 100), moved(aHi, 102), moved(sep, 106), moved(aHi, 108), moved(b, 112)}) || e != api.OK {
		t.Errorf("%v, %v", p, e)
	}
}

// P7.4, with the eighth row of the examples.
func TestPlaced(t *testing.T) {
	for _, c := range []struct {
		l []api.Token
		e api.Errno
	}{
		{[]api.Token{moved(aHi, 5), moved(b, 9)}, api.OK},
		{[]api.Token{moved(aHi, 5), moved(b, 8)}, api.ErrOrder},
		{[]api.Token{moved(aHi, 5), moved(b, 10)}, api.ErrOrder},
		{[]api.Token{moved(aHi, 5), moved(b, 5)}, api.ErrOrder},
		{[]api.Token{moved(aHi, 5), moved(b, 4)}, api.ErrOrder},
		{[]api.Token{moved(b, 9), moved(aHi, 5)}, api.ErrOrder},
		{[]api.Token{moved(aHi, 0), moved(b, 4), moved(sep, 6), moved(aHi, 8)}, api.OK},
		{[]api.Token{moved(aHi, 0), moved(b, 4), moved(sep, 6), moved(aHi, 9)}, api.ErrOrder},
		{[]api.Token{moved(aHi, 0), moved(b, 5), moved(sep, 6), moved(aHi, 8)}, api.ErrOrder},
		{nil, api.OK},
		{[]api.Token{moved(b, 0)}, api.OK},
		{[]api.Token{moved(b, 77)}, api.OK},
		// The last frame may end behind the greatest offset: only where tokens are counts.
		{[]api.Token{moved(aHi, last)}, api.OK},
		{[]api.Token{moved(b, last-2), moved(aHi, last)}, api.OK},
		{[]api.Token{moved(b, last-1), moved(aHi, last)}, api.ErrOrder},
		// What is wrong with a token counts before where it stands.
		{[]api.Token{moved(aHi, 5), moved(b, 8), moved(sep, -1)}, api.ErrRange},
		{[]api.Token{moved(aHi, 5), moved(b, 8), {Symbol: 3}}, api.ErrSymbol},
		{[]api.Token{moved(b, last-1), moved(b, last+1)}, api.ErrRange},
	} {
		if e := token.Placed(c.l, 2); e != c.e {
			t.Errorf("Placed(%v, 2) = %v, want %v", c.l, e, c.e)
		}
	}
}

// P7.4: the bounds of offsets, for the first token and behind the last one.
func TestPlaceWithinOffsets(t *testing.T) {
	l := []api.Token{aHi, b, sep} // 8 bytes
	for _, at := range append(numbers(), last-9, last-8, last-7, last-6, last-2) {
		p, e := token.Place(l, 2, at)
		if at >= 0 && at <= last-8 {
			if !slices.Equal(p, []api.Token{moved(aHi, at), moved(b, at+4), moved(sep, at+6)}) || e != api.OK {
				t.Errorf("at %d: %v, %v", at, p, e)
			}
		} else if len(p) != 0 || e != api.ErrRange {
			t.Errorf("at %d: %v, %v; want ErrRange", at, p, e)
		}
		// Without tokens there is no last frame.
		p, e = token.Place(nil, 2, at)
		if right := at >= 0 && at <= last; len(p) != 0 || right && e != api.OK || !right && e != api.ErrRange {
			t.Errorf("none at %d: %v, %v", at, p, e)
		}
	}
	// The longest list of the longest tokens just has room, and one byte less is not enough.
	many := slices.Repeat([]api.Token{{Text: strings.Repeat("x", longest)}}, most)
	size := most * (2 + longest)
	if p := mustPlace(t, many, 1, last-size); p[most-1].At != last-2-longest {
		t.Errorf("the last one is at %d", p[most-1].At)
	}
	if p, e := token.Place(many, 1, last-size+1); len(p) != 0 || e != api.ErrRange {
		t.Errorf("%d tokens, %v", len(p), e)
	}
}

// P7.4: errors of lists, and their order: the number of tokens, the tokens, and then the rest (R1 and R3).
func TestErrorsOfLists(t *testing.T) {
	long := api.Token{Text: strings.Repeat("x", 25)}
	none := api.Token{Symbol: 3}
	for _, c := range []struct {
		l                 []api.Token
		terms, at         int
		list, place, done api.Errno
	}{
		{[]api.Token{aHi, none}, 2, 0, api.ErrSymbol, api.ErrSymbol, api.ErrSymbol},
		{[]api.Token{none, long}, 2, 0, api.ErrSymbol, api.ErrSymbol, api.ErrSymbol},
		{[]api.Token{long, none}, 2, 0, api.ErrLong, api.ErrLong, api.ErrLong},
		{[]api.Token{aHi, long, none}, 2, -1, api.ErrLong, api.ErrLong, api.ErrLong},
		// Place does not look at At.
		{[]api.Token{moved(b, -1), none}, 2, 0, api.ErrRange, api.ErrSymbol, api.ErrRange},
		{[]api.Token{moved(b, last+1)}, 2, 0, api.ErrRange, api.OK, api.ErrRange},
		{[]api.Token{moved(b, math.MinInt), moved(b, math.MaxInt)}, 2, 0, api.ErrRange, api.OK, api.ErrRange},
		{[]api.Token{moved(none, -1), long}, 2, 0, api.ErrSymbol, api.ErrSymbol, api.ErrSymbol},
		{[]api.Token{moved(b, -1)}, 2, -1, api.ErrRange, api.ErrRange, api.ErrRange},
		{[]api.Token{none}, 2, -1, api.ErrSymbol, api.ErrSymbol, api.ErrSymbol},
		{[]api.Token{aHi}, 0, 0, api.ErrRange, api.ErrRange, api.ErrRange},
		{[]api.Token{none, aHi}, 9, 0, api.ErrRange, api.ErrRange, api.ErrRange},
		{make([]api.Token, 1001), 9, -1, api.ErrFull, api.ErrFull, api.ErrFull},
		{slices.Repeat([]api.Token{none}, 1001), 2, 0, api.ErrFull, api.ErrFull, api.ErrFull},
		{make([]api.Token, 1001), 2, 0, api.ErrFull, api.ErrFull, api.ErrFull},
		{make([]api.Token, 1000), 2, 0, api.OK, api.OK, api.ErrOrder},
		{append(make([]api.Token, 999), none), 2, 0, api.ErrSymbol, api.ErrSymbol, api.ErrSymbol},
		// Without tokens no token is wrong, for any number of terminals.
		{nil, 2, 0, api.OK, api.OK, api.OK},
		{nil, 0, 0, api.OK, api.OK, api.OK},
		{[]api.Token{}, 9, 0, api.OK, api.OK, api.OK},
	} {
		if s, e := token.List(c.l, c.terms); e != c.list || e != api.OK && s != "" {
			t.Errorf("List(%.60v, %d) = %x, %v; want %v", c.l, c.terms, s, e, c.list)
		}
		if p, e := token.Place(c.l, c.terms, c.at); e != c.place || e != api.OK && len(p) != 0 || e == api.OK && len(p) != len(c.l) {
			t.Errorf("Place(%.60v, %d, %d) = %.60v, %v; want %v", c.l, c.terms, c.at, p, e, c.place)
		}
		if e := token.Placed(c.l, c.terms); e != c.done {
			t.Errorf("Placed(%.60v, %d) = %v, want %v", c.l, c.terms, e, c.done)
		}
	}
}

// P7.4: lists at random, right and wrong, held against the words of the chapter.
func TestListsAtRandom(t *testing.T) {
	r := rand.New(rand.NewSource(74))
	seen := map[api.Errno]int{}
	for range 3000 {
		terms := 1 + r.Intn(mostTerms)
		l := randomTokens(r, r.Intn(12), terms)
		for i := range l {
			switch r.Intn(40) {
			case 0:
				l[i].Symbol = terms + 1
			case 1:
				l[i].Text = strings.Repeat("x", 25)
			case 2:
				l[i].At = last + 1
			}
		}
		at := []int{0, 5, r.Intn(last), last - r.Intn(100), last + 1, -1}[r.Intn(6)]
		listed, there, end := "", []api.Token(nil), at
		without := slices.Clone(l)
		for i, x := range l {
			listed += wantFrame(x)
			there = append(there, moved(x, end))
			end += 2 + len(x.Text)
			without[i].At = 0
		}
		want := wantCheckAll(l, terms)
		if want != api.OK {
			listed = ""
		}
		if s, e := token.List(l, terms); s != listed || e != want {
			t.Fatalf("List(%v, %d) = %x, %v; want %x, %v", l, terms, s, e, listed, want)
		}
		want = wantCheckAll(without, terms)
		if want == api.OK && (at < 0 || end > last) {
			want = api.ErrRange
		}
		if want != api.OK {
			there = nil
		}
		if p, e := token.Place(l, terms, at); !slices.Equal(p, there) || e != want {
			t.Fatalf("Place(%v, %d, %d) = %v, %v; want %v, %v", l, terms, at, p, e, there, want)
		}
		seen[want]++
	}
	for _, e := range []api.Errno{api.OK, api.ErrRange, api.ErrSymbol, api.ErrLong} {
		if seen[e] < 100 {
			t.Errorf("only %d lists with %v", seen[e], e)
		}
	}
}

// P7.5 (and P2): a frame is read as its token, whatever follows.
func TestFramesAreReadBack(t *testing.T) {
	for terms := 1; terms <= mostTerms; terms++ {
		for _, x := range rightTokens(terms) {
			s := mustBytes(t, x, terms)
			for _, behind := range []string{"", "\x00", "\x80", "\xff\xff", "\x00\x02hi", s, strings.Repeat("\x80", 30)} {
				got, used, f := token.Read(s+behind, terms, x.At)
				if got != x || used != len(s) || f != (api.Fault{}) {
					t.Fatalf("Read(%x %x, %d, %d) = %v, %d, %v", s, behind, terms, x.At, got, used, f)
				}
			}
		}
	}
}

// P7.5: what is read has these bytes as its frame.
func TestWhatIsReadHasTheseBytes(t *testing.T) {
	r := rand.New(rand.NewSource(75))
	read := 0
	for range 40000 {
		s := make([]byte, r.Intn(32))
		for i := range s {
			s[i] = byte(r.Intn(256) & r.Intn(256) & r.Intn(256))
		}
		terms, at := 1+r.Intn(mostTerms), r.Intn(last)
		checkReading(t, string(s), terms, at)
		x, used, f := token.Read(string(s), terms, at)
		if f.Err != api.OK {
			continue
		}
		read++
		if got := mustBytes(t, x, terms); got != string(s[:used]) || token.Size(x) != used || x.At != at {
			t.Fatalf("%x was read as %v, which is %x", s, x, got)
		}
	}
	if read < 5000 {
		t.Errorf("only %d were read", read)
	}
}

// P7.6
func TestBeginnings(t *testing.T) {
	for _, terms := range []int{1, 2, mostTerms} {
		for _, x := range rightTokens(terms) {
			s := mustBytes(t, x, terms)
			for n := range len(s) {
				is, e := token.Begins(s[:n], terms)
				if !is || e != api.OK {
					t.Fatalf("Begins(%x, %d) = %v, %v", s[:n], terms, is, e)
				}
				// With any byte more it is a beginning, or a frame, or bad.
				for more := range 256 {
					longer := s[:n] + string([]byte{byte(more)})
					is, e := token.Begins(longer, terms)
					_, used, f := token.Read(longer, terms, 3)
					begins := is && e == api.OK && f == (api.Fault{Err: api.ErrShort, At: 3})
					frame := !is && e == api.OK && f == (api.Fault{}) && used == len(longer)
					bad := !is && e != api.OK && e != api.ErrShort && f == (api.Fault{Err: e, At: 3}) && n < 2
					if !begins && !frame && !bad {
						t.Fatalf("%x: %v, %v; %d, %v", longer, is, e, used, f)
					}
				}
			}
			if is, e := token.Begins(s, terms); is || e != api.OK {
				t.Fatalf("Begins(%x, %d) = %v, %v", s, terms, is, e)
			}
		}
	}
}

// P7.7: no frame is a beginning of another one.
func TestNoFrameBeginsAnother(t *testing.T) {
	l := rightTokens(2)
	for _, x := range l {
		for _, y := range l {
			s, other := mustBytes(t, x, 2), mustBytes(t, y, 2)
			if strings.HasPrefix(other, s) != (s == other) {
				t.Fatalf("%x begins %x", s, other)
			}
			if same := x.Symbol == y.Symbol && x.Text == y.Text; (s == other) != same {
				t.Fatalf("%v is %x, %v is %x", x, s, y, other)
			}
		}
	}
}

// P7.7: bytes are frames in at most one way: those of a list are read back as the list.
func TestListsAreReadBack(t *testing.T) {
	r := rand.New(rand.NewSource(77))
	for n := range 100 {
		terms := 1 + r.Intn(mostTerms)
		l := mustPlace(t, randomTokens(r, n, terms), terms, 9)
		s, e := token.List(l, terms)
		if e != api.OK {
			t.Fatal(e)
		}
		var got []api.Token
		for at := 0; at < len(s); {
			x, used, f := token.Read(s[at:], terms, 9+at)
			if f.Err != api.OK {
				t.Fatalf("Read(%x, %d, %d): %v", s[at:], terms, at, f)
			}
			got = append(got, x)
			at += used
		}
		if !slices.Equal(got, l) {
			t.Fatalf("%x was read as %v; want %v", s, got, l)
		}
		var parts string
		for _, x := range l {
			parts += mustBytes(t, x, terms)
		}
		if parts != s {
			t.Fatalf("List is %x, and the frames are %x", s, parts)
		}
	}
}

// P7.8
func TestPlacing(t *testing.T) {
	r := rand.New(rand.NewSource(78))
	for n := range 200 {
		terms := 1 + r.Intn(mostTerms)
		l := randomTokens(r, n, terms)
		at, again := r.Intn(last-20000), r.Intn(last-20000)
		p := mustPlace(t, l, terms, at)
		q := mustPlace(t, p, terms, again)
		end := at
		for i, x := range p {
			if x.Symbol != l[i].Symbol || x.Text != l[i].Text || q[i].Symbol != x.Symbol || q[i].Text != x.Text {
				t.Fatalf("%v became %v, and %v", l[i], x, q[i])
			}
			if x.At != end || q[i].At != end-at+again {
				t.Fatalf("%v of %v: placed from %d and from %d on", x, q[i], at, again)
			}
			end += token.Size(x)
		}
		if e, f := token.Placed(p, terms), token.Placed(q, terms); e != api.OK || f != api.OK {
			t.Fatalf("Placed: %v, %v", e, f)
		}
		if !slices.Equal(mustPlace(t, q, terms, at), p) {
			t.Fatal("placing at the same offset changes something")
		}
		// Each token that is elsewhere is found.
		for i := range p {
			if n < 2 {
				break
			}
			for _, by := range []int{-1, 1, 26} {
				moved := slices.Clone(p)
				moved[i].At = max(moved[i].At+by, 0)
				if e := token.Placed(moved, terms); moved[i] != p[i] && e != api.ErrOrder {
					t.Fatalf("the token %d of %d moved by %d: %v", i, n, by, e)
				}
			}
		}
	}
}

// R4: arguments are not changed, nor the room behind them, and results share no memory with them or with each other.
func TestNothingIsShared(t *testing.T) {
	l := append(make([]api.Token, 0, 8), moved(aHi, 3), moved(b, 99), moved(sep, 0))
	room := l[:cap(l)]
	was := slices.Clone(room)
	p, q := mustPlace(t, l, 2, 5), mustPlace(t, l, 2, 5)
	token.List(l, 2)
	token.Placed(l, 2)
	if !slices.Equal(room, was) {
		t.Fatalf("%v became %v", was, room)
	}
	want := slices.Clone(p)
	clear(room)
	if !slices.Equal(p, want) {
		t.Errorf("the tokens change with the argument: %v", p)
	}
	clear(p[:cap(p)])
	if !slices.Equal(q, want) {
		t.Errorf("two lists share memory: %v", q)
	}
	// Also where nothing has to be moved.
	again := mustPlace(t, q, 2, 5)
	again[0].Text = "changed"
	if !slices.Equal(q, want) {
		t.Errorf("the argument changes with the tokens: %v", q)
	}
}

// R4: lists that are nil and empty ones are equal.
func TestNilAndEmpty(t *testing.T) {
	for _, l := range [][]api.Token{nil, {}} {
		s, e := token.List(l, 2)
		p, f := token.Place(l, 2, last)
		if s != "" || e != api.OK || len(p) != 0 || f != api.OK || token.Placed(l, 2) != api.OK {
			t.Errorf("%#v: %x, %v, %v, %v", l, s, e, p, f)
		}
	}
}

// P1: no arguments make a function panic, however many there are, and however long; and what one call did is not kept for the next.
func TestAllArgumentsAreTaken(t *testing.T) {
	long := api.Token{Symbol: math.MinInt, Text: strings.Repeat("\xff", 1<<20), At: math.MaxInt}
	many := make([]api.Token, 1<<20)
	for _, terms := range numbers() {
		for _, at := range numbers() {
			if e := token.Check(long, terms); e == api.OK {
				t.Fatalf("Check(a long text, %d) = %v", terms, e)
			}
			if p, e := token.Place([]api.Token{long}, terms, at); len(p) != 0 || e == api.OK {
				t.Fatalf("Place(a long text, %d, %d) = %v", terms, at, e)
			}
			if p, e := token.Place(many, terms, at); len(p) != 0 || e != api.ErrFull {
				t.Fatalf("Place(many, %d, %d) = %v", terms, at, e)
			}
			token.Read(long.Text, terms, at)
		}
		if s, e := token.List(many, terms); s != "" || e != api.ErrFull || token.Placed(many, terms) != api.ErrFull {
			t.Fatalf("List(many, %d) = %x, %v", terms, s, e)
		}
		token.Begins(long.Text, terms)
	}
	// What stands behind a frame costs nothing, and changes nothing.
	behind := "\x00\x02hi" + long.Text
	for range 3 {
		if x, used, f := token.Read(behind, 2, 7); x != moved(aHi, 7) || used != 4 || f != (api.Fault{}) {
			t.Errorf("%v, %d, %v", x, used, f)
		}
		if x, used, f := token.Read("\x01", 2, 7); x != (api.Token{}) || used != 0 || f != (api.Fault{Err: api.ErrShort, At: 7}) {
			t.Errorf("%v, %d, %v", x, used, f)
		}
	}
}
