package codec_test

import (
	"fmt"
	"math"
	"math/big"
	"math/rand"
	"slices"
	"strings"
	"testing"

	"stenotype/api"
	"stenotype/codec"
	"stenotype/varint"
)

// longest is how many bytes a reader or a writer may have.
const longest = 20000

// spoiled are the reader and the writer that those which are not valid count as.
var (
	spoiledReader = api.Reader{Fault: at(api.ErrState, 0)}
	spoiledWriter = api.Writer{Err: api.ErrState}
)

// at returns the fault e at the offset n.
func at(e api.Errno, n int) api.Fault {
	return api.Fault{Err: e, At: n}
}

// ask is a field that is asked for, with its bounds.
type ask struct {
	kind                  byte // n: Number, w: Wide, s: String, i: Ints, f: Fixed
	most, least, greatest int
	wide                  uint64
}

// Asks of each kind.
func number(least, most int) ask { return ask{kind: 'n', least: least, most: most} }
func wide(most uint64) ask       { return ask{kind: 'w', wide: most} }
func sized(most int) ask         { return ask{kind: 's', most: most} }
func ints(most, least, greatest int) ask {
	return ask{kind: 'i', most: most, least: least, greatest: greatest}
}
func fixed(n int) ask { return ask{kind: 'f', most: n} }

// of reads the field from r.
func (a ask) of(r api.Reader) (api.Reader, any) {
	var q api.Reader
	var v any
	switch a.kind {
	case 'n':
		q, v = anyOf(codec.Number(r, a.least, a.most))
	case 'w':
		q, v = anyOf(codec.Wide(r, a.wide))
	case 's':
		q, v = anyOf(codec.String(r, a.most))
	case 'i':
		q, v = anyOf(codec.Ints(r, a.most, a.least, a.greatest))
	case 'f':
		q, v = anyOf(codec.Fixed(r, a.most))
	}
	return q, v
}

// anyOf returns what was read as a value of any type.
func anyOf[T any](r api.Reader, v T) (api.Reader, any) {
	return r, v
}

// none returns what is read where nothing is.
func (a ask) none() any {
	return map[byte]any{'n': 0, 'w': uint64(0), 's': "", 'i': []int(nil), 'f': ""}[a.kind]
}

// bare reports whether v is what is read where nothing is.
func (a ask) bare(v any) bool {
	return same(v, a.none())
}

// same reports whether two values that were read are equal.
func same(v, w any) bool {
	if l, ok := v.([]int); ok {
		m, ok := w.([]int)
		return ok && slices.Equal(l, m)
	}
	return v == w
}

// want returns what must come of the field if it is read from r.
func (a ask) want(r api.Reader) (api.Reader, any) {
	if !rightReader(r) {
		return spoiledReader, a.none()
	}
	if r.Fault.Err != api.OK {
		return r, a.none()
	}
	v, next, f := a.wantIn(r.S, r.At)
	if f.Err != api.OK {
		return api.Reader{S: r.S, At: r.At, Fault: f}, a.none()
	}
	return api.Reader{S: r.S, At: next}, v
}

// wantIn returns the field that s has at the offset from, and the offset behind it, or the fault.
func (a ask) wantIn(s string, from int) (any, int, api.Fault) {
	if a.most < 0 || a.kind == 'n' && (a.least < 0 || a.least > a.most) || a.kind == 'i' && a.least > a.greatest {
		return nil, 0, at(api.ErrRange, from)
	}
	if a.kind == 'f' {
		if a.most > len(s[from:]) {
			return nil, 0, at(api.ErrShort, from)
		}
		return s[from:][:a.most], from + a.most, api.Fault{}
	}
	n, next, f := varint.Read(s, from)
	switch {
	case f.Err != api.OK:
		return nil, 0, f
	case a.kind == 'w' && n > a.wide, a.kind == 'n' && (exact(n).Cmp(big.NewInt(int64(a.least))) < 0 || exact(n).Cmp(big.NewInt(int64(a.most))) > 0):
		return nil, 0, at(api.ErrRange, from)
	case a.kind == 'w':
		return n, next, api.Fault{}
	case a.kind == 'n':
		return int(n), next, api.Fault{}
	case exact(n).Cmp(big.NewInt(int64(a.most))) > 0:
		return nil, 0, at(api.ErrLong, from)
	case a.kind == 's' && n > uint64(len(s)-next):
		return nil, 0, at(api.ErrShort, next)
	case a.kind == 's':
		return s[next:][:n], next + int(n), api.Fault{}
	}
	return a.wantList(s, n, next)
}

// wantList returns the n numbers that s has at the offset from, and the offset behind them, or the fault.
func (a ask) wantList(s string, n uint64, from int) (any, int, api.Fault) {
	l := []int{}
	for ; n > 0; n-- {
		z, next, f := varint.Read(s, from)
		if f.Err != api.OK {
			return nil, 0, f
		}
		v := unfolded(z)
		if v.Cmp(big.NewInt(int64(a.least))) < 0 || v.Cmp(big.NewInt(int64(a.greatest))) > 0 {
			return nil, 0, at(api.ErrRange, from)
		}
		l = append(l, int(v.Int64()))
		from = next
	}
	return l, from, api.Fault{}
}

// exact returns n as a number of any size.
func exact(n uint64) *big.Int {
	return new(big.Int).SetUint64(n)
}

// unfolded returns the number whose Zigzag is z: half of an even one, and half of what is above an odd one, with a minus sign.
func unfolded(z uint64) *big.Int {
	v := exact(z)
	if z%2 == 1 {
		v.Add(v, big.NewInt(1)).Neg(v)
	}
	return v.Quo(v, big.NewInt(2))
}

// rightReader reports whether r is valid.
func rightReader(r api.Reader) bool {
	if len(r.S) > longest || r.At < 0 || r.At > len(r.S) {
		return false
	}
	if r.Fault.Err == 0 {
		return r.Fault.At == 0
	}
	return r.Fault.Err >= 1 && r.Fault.Err <= 31 && r.Fault.At >= 0 && r.Fault.At <= len(r.S)
}

// rightWriter reports whether w is valid.
func rightWriter(w api.Writer) bool {
	return w.Most >= 0 && w.Most <= longest && len(w.S) <= w.Most && w.Err >= 0 && w.Err <= 31
}

// bounds are numbers to ask with.
func bounds() []int {
	return []int{math.MinInt, math.MinInt64 + 1, -64, -2, -1, 0, 1, 2, 3, 63, 127, 128, 300, longest, longest + 1, math.MaxInt - 1, math.MaxInt}
}

// asks are fields with bounds of all sizes, also those that no field has.
func asks() []ask {
	var l []ask
	for _, a := range bounds() {
		l = append(l, sized(a), fixed(a), wide(uint64(a)))
		for _, b := range bounds() {
			l = append(l, number(a, b))
			for _, most := range []int{math.MinInt, -1, 0, 1, 2, 3, math.MaxInt} {
				l = append(l, ints(most, a, b))
			}
		}
	}
	return l
}

// strung are strings of many kinds.
func strung() []string {
	nine := strings.Repeat("\xff", 9)
	l := []string{
		"", "\x00", "\x01", "\x05", "\x80", "\xff", "\x80\x00", "\xac\x02", "\xac\x02\x05", "\x02abc", "\x02a", "\x02\x01\x04", "\x02\x01", "\x00\x00\x00",
		"\x03\x00\x01\x02", "\x03\x80\x01\xff\x01\x02", "\x02\x05\x80\x00", "\x80\x01" + strings.Repeat("x", 128), "\x80\x01" + strings.Repeat("\x01", 127),
		nine + "\x01", nine + "\x02", nine + "\x01a", "\x01" + nine + "\x01", "\x01\xfe" + nine[1:] + "\x01", "\x02\x00" + nine + "\x02", nine[1:] + "\x7f", nine[1:] + "\x7fa",
		"\x80\x80\x80\x80\x80\x80\x80\x80\x80\x01", "\x01\x80\x80\x80\x80\x80\x80\x80\x80\x80\x01",
	}
	r := rand.New(rand.NewSource(5))
	bytes := "\x00\x01\x01\x02\x02\x03\x04\x05\x7f\x80\x81\xac\xffab"
	for range 40 {
		var s strings.Builder
		for range r.Intn(9) {
			s.WriteByte(bytes[r.Intn(len(bytes))])
		}
		l = append(l, s.String())
	}
	return l
}

// failedReaders are valid readers that have a fault.
func failedReaders() []api.Reader {
	var l []api.Reader
	for _, s := range []string{"", "\x05", "\x01\x01\x02", strings.Repeat("\x00", longest)} {
		for _, from := range []int{0, len(s) / 2, len(s)} {
			for err := api.ErrNil; err <= api.ErrVersion; err++ {
				l = append(l, api.Reader{S: s, At: from, Fault: at(err, 0)}, api.Reader{S: s, At: from, Fault: at(err, len(s))}, api.Reader{S: s, At: len(s) - from, Fault: at(err, from)})
			}
		}
	}
	return l
}

// wrongReaders are readers that are not valid.
func wrongReaders() []api.Reader {
	l := []api.Reader{
		{At: 1}, {At: -1}, {S: "a", At: 2}, {S: "a", At: -1}, {S: "a", At: math.MaxInt}, {S: "a", At: math.MinInt},
		{Fault: at(0, 1)}, {Fault: at(0, -1)}, {S: "ab", Fault: at(0, 1)}, {S: "ab", At: 1, Fault: at(0, 1)}, {S: "ab", Fault: at(0, -1)}, {S: "ab", At: 2, Fault: at(0, 2)},
		{S: "a", Fault: at(-1, 0)}, {S: "a", Fault: at(32, 0)}, {S: "a", Fault: at(math.MaxInt, 1)}, {S: "a", Fault: at(math.MinInt, 1)},
		{S: "a", Fault: at(api.ErrForm, 2)}, {S: "a", Fault: at(api.ErrForm, -1)}, {Fault: at(api.ErrNil, 1)}, {S: "a", Fault: at(api.ErrVersion, math.MaxInt)}, {S: "a", Fault: at(api.ErrVersion, math.MinInt)},
		{S: strings.Repeat("a", longest+1)}, {S: strings.Repeat("a", longest+1), At: 5}, {S: strings.Repeat("a", longest+1), Fault: at(api.ErrForm, 0)}, {S: strings.Repeat("\x00", 100*longest)},
		{S: "a", At: 2, Fault: at(api.ErrForm, 0)}, {S: "a", At: -1, Fault: at(api.ErrForm, 1)},
	}
	return l
}

// wrongWriters are writers that are not valid.
func wrongWriters() []api.Writer {
	return []api.Writer{
		{Most: -1}, {Most: math.MinInt}, {Most: longest + 1}, {Most: math.MaxInt}, {S: "a"}, {S: "ab", Most: 1}, {S: "ab", Most: -1}, {S: "ab", Most: longest + 1},
		{Most: 9, Err: -1}, {Most: 9, Err: 32}, {Most: 9, Err: math.MaxInt}, {Most: 9, Err: math.MinInt}, {S: "a", Most: 9, Err: 32},
		{S: "ab", Most: 1, Err: api.ErrLong}, {Most: -1, Err: api.ErrForm}, {Most: longest + 1, Err: api.ErrForm}, {S: strings.Repeat("a", longest+1), Most: longest + 1}, {S: strings.Repeat("a", longest+1), Most: longest},
	}
}

// hold holds what comes of the field, if it is read from r, against what must come of it.
func hold(t *testing.T, a ask, r api.Reader) {
	t.Helper()
	q, v := a.of(r)
	if wantQ, wantV := a.want(r); q != wantQ || !same(v, wantV) {
		t.Fatalf("%s of %s = %s, %s; want %s, %s", brief(a), brief(r), brief(q), brief(v), brief(wantQ), brief(wantV))
	}
}

// brief returns the beginning of what v looks like.
func brief(v any) string {
	if a, ok := v.(ask); ok {
		return fmt.Sprintf("%c(most %d, from %d to %d, wide %d)", a.kind, a.most, a.least, a.greatest, a.wide)
	}
	return fmt.Sprintf("%.80s", fmt.Sprintf("%+q", fmt.Sprintf("%+v", v)))
}

// readCase is a field that is read from the beginning of s, and what comes of it.
type readCase struct {
	a    ask
	s    string
	v    any
	next int
	f    api.Fault
}

// check holds what comes of the field against what the case says, at the beginning and behind other bytes.
func (c readCase) check(t *testing.T) {
	t.Helper()
	for _, front := range []string{"", "\x07", "\x80\xff\x00"} {
		want := api.Reader{S: front + c.s, At: len(front) + c.next, Fault: c.f}
		if c.f.Err != api.OK {
			want.Fault.At += len(front)
			c.v = c.a.none()
		}
		q, v := c.a.of(api.Reader{S: front + c.s, At: len(front)})
		if q != want || !same(v, c.v) {
			t.Errorf("%s of %x at %d: %s, %v; want %s, %v", brief(c.a), front+c.s, len(front), brief(q), v, brief(want), c.v)
		}
	}
}

// P5.1: Read.
func TestRead(t *testing.T) {
	for _, s := range []string{"", "a", "\x00\xff", strings.Repeat("a", longest-1), strings.Repeat("a", longest)} {
		if r := codec.Read(s); r != (api.Reader{S: s}) {
			t.Errorf("Read of %d bytes: %s", len(s), brief(r))
		}
	}
	for _, n := range []int{longest + 1, longest + 2, 50 * longest} {
		if r := codec.Read(strings.Repeat("a", n)); r != spoiledReader {
			t.Errorf("Read of %d bytes: %s", n, brief(r))
		}
	}
}

// P5.1, with the first row of the examples.
func TestNumbersOneBehindTheOther(t *testing.T) {
	r, n := codec.Number(codec.Read("\xac\x02\x05"), 0, 300)
	if n != 300 || r != (api.Reader{S: "\xac\x02\x05", At: 2}) {
		t.Error(n, r)
	}
	if q, n := codec.Number(r, 0, 4); n != 0 || q != (api.Reader{S: "\xac\x02\x05", At: 2, Fault: at(api.ErrRange, 2)}) {
		t.Error(n, q)
	}
	if q, n := codec.Number(r, 0, 5); n != 5 || q != (api.Reader{S: "\xac\x02\x05", At: 3}) {
		t.Error(n, q)
	}
}

// P5.1: Number, with the second row of the examples.
func TestNumber(t *testing.T) {
	greatest := "\xff\xff\xff\xff\xff\xff\xff\xff\x7f"
	for _, c := range []readCase{
		{a: number(6, 9), s: "\x05", f: at(api.ErrRange, 0)},
		{a: number(9, 6), s: "\x05", f: at(api.ErrRange, 0)},
		{a: number(0, 9), s: "", f: at(api.ErrShort, 0)},
		{a: number(5, 5), s: "\x05", v: 5, next: 1},
		{a: number(5, 9), s: "\x05", v: 5, next: 1},
		{a: number(0, 5), s: "\x05\x06", v: 5, next: 1},
		{a: number(0, 4), s: "\x05", f: at(api.ErrRange, 0)},
		{a: number(6, 6), s: "\x05", f: at(api.ErrRange, 0)},
		{a: number(0, 0), s: "\x00", v: 0, next: 1},
		{a: number(1, 1), s: "\x00", f: at(api.ErrRange, 0)},
		{a: number(0, 300), s: "\xac\x02", v: 300, next: 2},
		{a: number(0, 299), s: "\xac\x02", f: at(api.ErrRange, 0)},
		{a: number(0, math.MaxInt), s: greatest, v: math.MaxInt, next: 9},
		{a: number(math.MaxInt, math.MaxInt), s: greatest, v: math.MaxInt, next: 9},
		{a: number(0, math.MaxInt-1), s: greatest, f: at(api.ErrRange, 0)},
		{a: number(0, math.MaxInt), s: "\x80\x80\x80\x80\x80\x80\x80\x80\x80\x01", f: at(api.ErrRange, 0)},
		{a: number(0, math.MaxInt), s: strings.Repeat("\xff", 9) + "\x01", f: at(api.ErrRange, 0)},
		{a: number(0, math.MaxInt), s: strings.Repeat("\xff", 9) + "\x02", f: at(api.ErrVarint, 9)},
		{a: number(0, 9), s: "\x80", f: at(api.ErrShort, 1)},
		{a: number(0, 9), s: "\x80\x00", f: at(api.ErrVarint, 1)},
		// The bounds come first.
		{a: number(-1, 9), s: "\x05", f: at(api.ErrRange, 0)},
		{a: number(-1, -1), s: "\x05", f: at(api.ErrRange, 0)},
		{a: number(0, -1), s: "\x05", f: at(api.ErrRange, 0)},
		{a: number(math.MinInt, math.MaxInt), s: "\x05", f: at(api.ErrRange, 0)},
		{a: number(9, 6), s: "", f: at(api.ErrRange, 0)},
		{a: number(-1, 6), s: "\x80\x00", f: at(api.ErrRange, 0)},
		{a: number(9, 6), s: "\x80", f: at(api.ErrRange, 0)},
		// That of varint comes before the range.
		{a: number(1, 1), s: "\xff\xff", f: at(api.ErrShort, 2)},
		{a: number(9, 9), s: "\xff\x00", f: at(api.ErrVarint, 1)},
	} {
		c.check(t)
	}
}

// P5.1: Wide.
func TestWide(t *testing.T) {
	greatest := strings.Repeat("\xff", 9) + "\x01"
	for _, c := range []readCase{
		{a: wide(math.MaxUint64), s: greatest, v: uint64(math.MaxUint64), next: 10},
		{a: wide(math.MaxUint64 - 1), s: greatest, f: at(api.ErrRange, 0)},
		{a: wide(math.MaxInt64), s: greatest, f: at(api.ErrRange, 0)},
		{a: wide(math.MaxUint64), s: greatest[:9] + "\x02", f: at(api.ErrVarint, 9)},
		{a: wide(1 << 63), s: "\x80\x80\x80\x80\x80\x80\x80\x80\x80\x01", v: uint64(1 << 63), next: 10},
		{a: wide(1<<63 - 1), s: "\x80\x80\x80\x80\x80\x80\x80\x80\x80\x01", f: at(api.ErrRange, 0)},
		{a: wide(5), s: "\x05\x05", v: uint64(5), next: 1},
		{a: wide(4), s: "\x05", f: at(api.ErrRange, 0)},
		{a: wide(0), s: "\x00", v: uint64(0), next: 1},
		{a: wide(0), s: "\x01", f: at(api.ErrRange, 0)},
		{a: wide(0), s: "", f: at(api.ErrShort, 0)},
		{a: wide(0), s: "\x80", f: at(api.ErrShort, 1)},
		{a: wide(0), s: "\x81\x00", f: at(api.ErrVarint, 1)},
	} {
		c.check(t)
	}
}

// P5.1: Fixed, with the fifth row of the examples.
func TestFixed(t *testing.T) {
	for _, c := range []readCase{
		{a: fixed(1), s: "ab", v: "a", next: 1},
		{a: fixed(2), s: "ab", v: "ab", next: 2},
		{a: fixed(3), s: "ab", f: at(api.ErrShort, 0)},
		{a: fixed(0), s: "ab", v: "", next: 0},
		{a: fixed(0), s: "", v: "", next: 0},
		{a: fixed(1), s: "", f: at(api.ErrShort, 0)},
		{a: fixed(2), s: "\x80\x00", v: "\x80\x00", next: 2},
		{a: fixed(-1), s: "ab", f: at(api.ErrRange, 0)},
		{a: fixed(-1), s: "", f: at(api.ErrRange, 0)},
		{a: fixed(math.MinInt), s: "ab", f: at(api.ErrRange, 0)},
		{a: fixed(math.MaxInt), s: "ab", f: at(api.ErrShort, 0)},
	} {
		c.check(t)
	}
	all := strings.Repeat("ab", longest/2)
	if r, s := codec.Fixed(codec.Read(all), longest); s != all || r != (api.Reader{S: all, At: longest}) {
		t.Error("not all of it:", len(s), brief(r))
	}
}

// P5.2: String, with the third row of the examples.
func TestString(t *testing.T) {
	for _, c := range []readCase{
		{a: sized(2), s: "\x02abc", v: "ab", next: 3},
		{a: sized(1), s: "\x02abc", f: at(api.ErrLong, 0)},
		{a: sized(9), s: "\x02a", f: at(api.ErrShort, 1)},
		{a: sized(9), s: "\x02abc", v: "ab", next: 3},
		{a: sized(math.MaxInt), s: "\x03abc", v: "abc", next: 4},
		{a: sized(0), s: "\x00", v: "", next: 1},
		{a: sized(0), s: "\x00a", v: "", next: 1},
		{a: sized(0), s: "\x01a", f: at(api.ErrLong, 0)},
		{a: sized(1), s: "\x01", f: at(api.ErrShort, 1)},
		{a: sized(9), s: "", f: at(api.ErrShort, 0)},
		{a: sized(9), s: "\x81", f: at(api.ErrShort, 1)},
		{a: sized(9), s: "\x81\x00a", f: at(api.ErrVarint, 1)},
		{a: sized(128), s: "\x80\x01" + strings.Repeat("x", 128), v: strings.Repeat("x", 128), next: 130},
		{a: sized(127), s: "\x80\x01" + strings.Repeat("x", 128), f: at(api.ErrLong, 0)},
		{a: sized(128), s: "\x80\x01" + strings.Repeat("x", 127), f: at(api.ErrShort, 2)},
		// The bound comes first, and what is too long is not asked for its bytes.
		{a: sized(-1), s: "\x00", f: at(api.ErrRange, 0)},
		{a: sized(-1), s: "", f: at(api.ErrRange, 0)},
		{a: sized(math.MinInt), s: "\x80\x00", f: at(api.ErrRange, 0)},
		{a: sized(4), s: "\x05a", f: at(api.ErrLong, 0)},
		// Lengths are exact, however great they are.
		{a: sized(math.MaxInt), s: "\xff\xff\xff\xff\xff\xff\xff\xff\x7fa", f: at(api.ErrShort, 9)},
		{a: sized(math.MaxInt - 1), s: "\xff\xff\xff\xff\xff\xff\xff\xff\x7fa", f: at(api.ErrLong, 0)},
		{a: sized(math.MaxInt), s: "\x80\x80\x80\x80\x80\x80\x80\x80\x80\x01a", f: at(api.ErrLong, 0)},
		{a: sized(math.MaxInt), s: strings.Repeat("\xff", 9) + "\x01a", f: at(api.ErrLong, 0)},
	} {
		c.check(t)
	}
}

// P5.2: Ints, with the fourth row of the examples.
func TestInts(t *testing.T) {
	least, greatest := "\xff\xff\xff\xff\xff\xff\xff\xff\xff\x01", "\xfe\xff\xff\xff\xff\xff\xff\xff\xff\x01"
	for _, c := range []readCase{
		{a: ints(2, -1, 2), s: "\x02\x01\x04", v: []int{-1, 2}, next: 3},
		{a: ints(2, 0, 2), s: "\x02\x01\x04", f: at(api.ErrRange, 1)},
		{a: ints(1, -1, 2), s: "\x02\x01\x04", f: at(api.ErrLong, 0)},
		{a: ints(2, -1, 2), s: "\x02\x01", f: at(api.ErrShort, 2)},
		{a: ints(2, -1, 1), s: "\x02\x01\x04", f: at(api.ErrRange, 2)},
		{a: ints(9, -5, 5), s: "\x02\x01\x04\x00", v: []int{-1, 2}, next: 3},
		{a: ints(0, 0, 0), s: "\x00", v: []int{}, next: 1},
		{a: ints(9, 0, 0), s: "\x00\x01", v: []int{}, next: 1},
		{a: ints(0, 0, 0), s: "\x01\x00", f: at(api.ErrLong, 0)},
		{a: ints(3, 0, 0), s: "\x03\x00\x00\x00", v: []int{0, 0, 0}, next: 4},
		{a: ints(2, -64, 150), s: "\x02\x7f\xac\x02", v: []int{-64, 150}, next: 4},
		{a: ints(2, -63, 150), s: "\x02\x7f\xac\x02", f: at(api.ErrRange, 1)},
		{a: ints(2, -64, 149), s: "\x02\x7f\xac\x02", f: at(api.ErrRange, 2)},
		{a: ints(9, -9, 9), s: "", f: at(api.ErrShort, 0)},
		{a: ints(9, -9, 9), s: "\x82", f: at(api.ErrShort, 1)},
		{a: ints(9, -9, 9), s: "\x82\x00", f: at(api.ErrVarint, 1)},
		{a: ints(9, -9, 9), s: "\x02\x01\x84\x00", f: at(api.ErrVarint, 3)},
		{a: ints(9, -9, 9), s: "\x02\x01\x84", f: at(api.ErrShort, 3)},
		{a: ints(2, math.MinInt, math.MaxInt), s: "\x02" + least + greatest, v: []int{math.MinInt, math.MaxInt}, next: 21},
		{a: ints(2, math.MinInt+1, math.MaxInt), s: "\x02" + least + greatest, f: at(api.ErrRange, 1)},
		{a: ints(2, math.MinInt, math.MaxInt-1), s: "\x02" + least + greatest, f: at(api.ErrRange, 11)},
		{a: ints(2, math.MinInt, math.MaxInt), s: "\x02\x00" + least[:9] + "\x02", f: at(api.ErrVarint, 11)},
		// It is the first number with a fault that counts.
		{a: ints(3, 0, 2), s: "\x03\x02\x01\x80", f: at(api.ErrRange, 2)},
		{a: ints(3, 0, 2), s: "\x03\x80\x00\x01", f: at(api.ErrVarint, 2)},
		// The bounds come first, then how many there are.
		{a: ints(-1, 0, 0), s: "\x00", f: at(api.ErrRange, 0)},
		{a: ints(math.MinInt, 0, 0), s: "", f: at(api.ErrRange, 0)},
		{a: ints(1, 1, 0), s: "\x00", f: at(api.ErrRange, 0)},
		{a: ints(1, 1, 0), s: "", f: at(api.ErrRange, 0)},
		{a: ints(1, math.MaxInt, math.MinInt), s: "\x80\x00", f: at(api.ErrRange, 0)},
		{a: ints(1, 0, 2), s: "\x02\x01", f: at(api.ErrLong, 0)},
		// How many there are is exact, however many that is.
		{a: ints(math.MaxInt, 0, 9), s: "\xff\xff\xff\xff\xff\xff\xff\xff\x7f\x02", f: at(api.ErrShort, 10)},
		{a: ints(math.MaxInt-1, 0, 9), s: "\xff\xff\xff\xff\xff\xff\xff\xff\x7f\x02", f: at(api.ErrLong, 0)},
		{a: ints(math.MaxInt, 0, 9), s: least, f: at(api.ErrLong, 0)},
		{a: ints(math.MaxInt, 0, 9), s: "\x80\x80\x80\x80\x80\x80\x80\x80\x80\x01\x00", f: at(api.ErrLong, 0)},
	} {
		c.check(t)
	}
}

// P5.1 and P5.2 (and P1): all fields of all strings, at all offsets.
func TestAllFields(t *testing.T) {
	for _, s := range strung() {
		for from := range len(s) + 1 {
			if from > 12 && from < len(s)-2 {
				continue
			}
			for _, a := range asks() {
				hold(t, a, api.Reader{S: s, At: from})
			}
		}
	}
}

// P5.3: Fail.
func TestFail(t *testing.T) {
	for _, c := range []struct {
		err  api.Errno
		at   int
		want api.Fault
	}{
		{api.ErrLong, 1, at(api.ErrLong, 1)}, {api.ErrNil, 0, at(api.ErrNil, 0)}, {api.ErrVersion, 2, at(api.ErrVersion, 2)}, {api.ErrState, 1, at(api.ErrState, 1)},
		{api.ErrLong, 3, at(api.ErrLong, 2)}, {api.ErrLong, math.MaxInt, at(api.ErrLong, 2)}, {api.ErrLong, -1, at(api.ErrLong, 0)}, {api.ErrLong, math.MinInt, at(api.ErrLong, 0)},
		{0, 0, at(api.ErrForm, 0)}, {0, 1, at(api.ErrForm, 1)}, {32, 1, at(api.ErrForm, 1)}, {-1, 1, at(api.ErrForm, 1)}, {math.MaxInt, 1, at(api.ErrForm, 1)}, {math.MinInt, 1, at(api.ErrForm, 1)},
		{32, 5, at(api.ErrForm, 2)}, {0, -5, at(api.ErrForm, 0)}, {31, -5, at(31, 0)},
	} {
		for from := range 3 {
			r := api.Reader{S: "ab", At: from}
			if q := codec.Fail(r, c.err, c.at); q != (api.Reader{S: "ab", At: from, Fault: c.want}) {
				t.Errorf("Fail(%+v, %d, %d) = %+v", r, int(c.err), c.at, q)
			}
		}
	}
	if q := codec.Fail(codec.Read(""), api.ErrForm, 1); q != (api.Reader{Fault: at(api.ErrForm, 0)}) {
		t.Error(q)
	}
}

// P5.3: End, with the fifth row of the examples.
func TestEnd(t *testing.T) {
	for _, c := range []struct {
		r    api.Reader
		want api.Fault
	}{
		{codec.Read("a"), at(api.ErrLong, 0)},
		{codec.Read(""), api.Fault{}},
		{api.Reader{S: "ab", At: 1}, at(api.ErrLong, 1)},
		{api.Reader{S: "ab", At: 2}, api.Fault{}},
		{codec.Read(strings.Repeat("a", longest)), at(api.ErrLong, 0)},
		{api.Reader{S: strings.Repeat("a", longest), At: longest}, api.Fault{}},
		{codec.Fail(codec.Read("ab"), api.ErrForm, 1), at(api.ErrForm, 1)},
		{codec.Fail(api.Reader{S: "ab", At: 2}, api.ErrForm, 1), at(api.ErrForm, 1)},
		{spoiledReader, at(api.ErrState, 0)},
	} {
		if f := codec.End(c.r); f != c.want {
			t.Errorf("End(%s) = %+v, want %+v", brief(c.r), f, c.want)
		}
	}
}

// P5.4: Make.
func TestMake(t *testing.T) {
	for _, most := range bounds() {
		want := spoiledWriter
		if most >= 0 && most <= longest {
			want = api.Writer{Most: most}
		}
		if w := codec.Make(most); w != want {
			t.Errorf("Make(%d) = %+v", most, w)
		}
	}
}

// written is something that is written, and its bytes.
type written struct {
	name  string
	put   func(w api.Writer) api.Writer
	bytes string
}

// puts are things of all kinds to be written.
func puts() []written {
	return []written{
		{"Put 0", func(w api.Writer) api.Writer { return codec.Put(w, 0) }, "\x00"},
		{"Put 300", func(w api.Writer) api.Writer { return codec.Put(w, 300) }, "\xac\x02"},
		{"Put 2^63", func(w api.Writer) api.Writer { return codec.Put(w, 1<<63) }, "\x80\x80\x80\x80\x80\x80\x80\x80\x80\x01"},
		{"Put 2^64 - 1", func(w api.Writer) api.Writer { return codec.Put(w, math.MaxUint64) }, strings.Repeat("\xff", 9) + "\x01"},
		{"PutString", func(w api.Writer) api.Writer { return codec.PutString(w) }, ""},
		{"PutString none", func(w api.Writer) api.Writer { return codec.PutString(w, "") }, "\x00"},
		{"PutString ab", func(w api.Writer) api.Writer { return codec.PutString(w, "ab") }, "\x02ab"},
		{"PutString a none", func(w api.Writer) api.Writer { return codec.PutString(w, "a", "") }, "\x01a\x00"},
		{"PutString none b ccc", func(w api.Writer) api.Writer { return codec.PutString(w, "", "b", "ccc") }, "\x00\x01b\x03ccc"},
		{"PutString of 128", func(w api.Writer) api.Writer { return codec.PutString(w, strings.Repeat("x", 128), "\xff") }, "\x80\x01" + strings.Repeat("x", 128) + "\x01\xff"},
		{"PutInts nil", func(w api.Writer) api.Writer { return codec.PutInts(w, nil) }, "\x00"},
		{"PutInts of 0", func(w api.Writer) api.Writer { return codec.PutInts(w, []int{}) }, "\x00"},
		{"PutInts -1 2", func(w api.Writer) api.Writer { return codec.PutInts(w, []int{-1, 2}) }, "\x02\x01\x04"},
		{"PutInts 0 -64 150", func(w api.Writer) api.Writer { return codec.PutInts(w, []int{0, -64, 150}) }, "\x03\x00\x7f\xac\x02"},
		{"PutInts of 128", func(w api.Writer) api.Writer { return codec.PutInts(w, slices.Repeat([]int{-3}, 128)) }, "\x80\x01" + strings.Repeat("\x05", 128)},
		{"PutInts at the edges", func(w api.Writer) api.Writer { return codec.PutInts(w, []int{math.MinInt, math.MaxInt}) }, "\x02\xff\xff\xff\xff\xff\xff\xff\xff\xff\x01\xfe\xff\xff\xff\xff\xff\xff\xff\xff\x01"},
		{"Add none", func(w api.Writer) api.Writer { return codec.Add(w, "") }, ""},
		{"Add c", func(w api.Writer) api.Writer { return codec.Add(w, "c") }, "c"},
		{"Add 80 00", func(w api.Writer) api.Writer { return codec.Add(w, "\x80\x00") }, "\x80\x00"},
	}
}

// P5.4: each thing is written all, or not at all.
func TestAllOrNothing(t *testing.T) {
	for _, p := range puts() {
		for _, front := range []string{"", "a", "\x00\xff\x80"} {
			for room := range len(p.bytes) + 3 {
				w := api.Writer{S: front, Most: len(front) + room}
				want := api.Writer{S: front + p.bytes, Most: w.Most}
				if room < len(p.bytes) {
					want = api.Writer{S: front, Most: w.Most, Err: api.ErrLong}
				}
				if got := p.put(w); got != want {
					t.Errorf("%s behind %q with room for %d: %s, want %s", p.name, front, room, brief(got), brief(want))
				}
			}
		}
	}
}

// P5.4: a writer holds MaxText bytes, and no more.
func TestLongestWriter(t *testing.T) {
	all := strings.Repeat("a", longest)
	for _, c := range []struct {
		w    api.Writer
		want api.Writer
	}{
		{codec.Add(codec.Make(longest), all), api.Writer{S: all, Most: longest}},
		{codec.Add(codec.Make(longest), all+"a"), api.Writer{Most: longest, Err: api.ErrLong}},
		{codec.Add(codec.Add(codec.Make(longest), all), ""), api.Writer{S: all, Most: longest}},
		{codec.Add(codec.Add(codec.Make(longest), all[1:]), "a"), api.Writer{S: all, Most: longest}},
		{codec.Put(codec.Add(codec.Make(longest), all), 0), api.Writer{S: all, Most: longest, Err: api.ErrLong}},
		{codec.PutString(codec.Make(longest), all[3:]), api.Writer{S: "\x9d\x9c\x01" + all[3:], Most: longest}},
		{codec.PutString(codec.Make(longest), all[2:]), api.Writer{Most: longest, Err: api.ErrLong}},
		{codec.PutString(codec.Make(longest), all, ""), api.Writer{Most: longest, Err: api.ErrLong}},
		{codec.PutString(codec.Make(longest), slices.Repeat([]string{""}, longest)...), api.Writer{S: strings.Repeat("\x00", longest), Most: longest}},
		{codec.PutString(codec.Make(longest), slices.Repeat([]string{""}, longest+1)...), api.Writer{Most: longest, Err: api.ErrLong}},
		{codec.PutInts(codec.Make(longest), make([]int, longest-3)), api.Writer{S: "\x9d\x9c\x01" + strings.Repeat("\x00", longest-3), Most: longest}},
		{codec.PutInts(codec.Make(longest), make([]int, longest-2)), api.Writer{Most: longest, Err: api.ErrLong}},
		// Sums are exact (R7): this one is above 2^32.
		{codec.PutString(codec.Make(longest), slices.Repeat([]string{strings.Repeat("a", 1<<20)}, 1<<12)...), api.Writer{Most: longest, Err: api.ErrLong}},
	} {
		if c.w != c.want {
			t.Errorf("%d bytes of at most %d, %v; want %d, %v", len(c.w.S), c.w.Most, c.w.Err, len(c.want.S), c.want.Err)
		}
	}
}

// P5.4, with the last two rows of the examples.
func TestDone(t *testing.T) {
	for _, c := range []struct {
		w    api.Writer
		want string
		e    api.Errno
	}{
		{codec.Put(codec.Make(2), 300), "\xac\x02", api.OK},
		{codec.Put(codec.Make(1), 300), "", api.ErrLong},
		{codec.PutString(codec.Make(9), "a", ""), "\x01a\x00", api.OK},
		{codec.PutInts(codec.Make(9), []int{-1, 2}), "\x02\x01\x04", api.OK},
		{codec.Add(codec.PutString(codec.Make(3), "ab"), "c"), "", api.ErrLong},
		{codec.Make(0), "", api.OK},
		{codec.Make(-1), "", api.ErrState},
		{codec.Make(longest + 1), "", api.ErrState},
		{api.Writer{}, "", api.OK},
		{api.Writer{S: "ab", Most: 2}, "ab", api.OK},
		{api.Writer{S: "ab", Most: 2, Err: api.ErrNil}, "", api.ErrNil},
		{api.Writer{S: "ab", Most: 9, Err: api.ErrVersion}, "", api.ErrVersion},
	} {
		if s, e := codec.Done(c.w); s != c.want || e != c.e {
			t.Errorf("Done(%s) = %q, %v; want %q, %v", brief(c.w), s, e, c.want, c.e)
		}
	}
}

// piece is a field: how it is written, how it is read, and what it is.
type piece struct {
	put func(w api.Writer) api.Writer
	ask ask
	v   any
}

// pieces returns some fields at random.
func pieces(r *rand.Rand) []piece {
	var l []piece
	for range r.Intn(12) {
		n, small := r.Uint64()>>r.Intn(64), int(r.Uint64()>>(1+r.Intn(63)))
		s := strings.Repeat(string([]byte{byte(n)}), r.Intn(300))
		list := make([]int, r.Intn(6))
		for i := range list {
			list[i] = int(r.Uint64()) >> r.Intn(64)
		}
		least, greatest := slices.Min(append([]int{0}, list...)), slices.Max(append([]int{0}, list...))
		l = append(l, []piece{
			{func(w api.Writer) api.Writer { return codec.Put(w, n) }, wide(n), n},
			{func(w api.Writer) api.Writer { return codec.Put(w, n) }, wide(math.MaxUint64), n},
			{func(w api.Writer) api.Writer { return codec.Put(w, uint64(small)) }, number(small, small), small},
			{func(w api.Writer) api.Writer { return codec.Put(w, uint64(small)) }, number(0, math.MaxInt), small},
			{func(w api.Writer) api.Writer { return codec.PutString(w, s) }, sized(len(s)), s},
			{func(w api.Writer) api.Writer { return codec.PutString(w, s) }, sized(math.MaxInt), s},
			{func(w api.Writer) api.Writer { return codec.PutInts(w, list) }, ints(len(list), least, greatest), list},
			{func(w api.Writer) api.Writer { return codec.PutInts(w, list) }, ints(math.MaxInt, math.MinInt, math.MaxInt), list},
			{func(w api.Writer) api.Writer { return codec.Add(w, s) }, fixed(len(s)), s},
		}[r.Intn(9)])
	}
	return l
}

// writtenBy returns the bytes of the fields.
func writtenBy(t *testing.T, l []piece) string {
	t.Helper()
	w := codec.Make(longest)
	for _, p := range l {
		w = p.put(w)
	}
	s, e := codec.Done(w)
	if e != api.OK {
		t.Fatal(e)
	}
	return s
}

// P5.5 (and P2)
func TestWhatWasWrittenIsReadAgain(t *testing.T) {
	random := rand.New(rand.NewSource(55))
	for range 3000 {
		l := pieces(random)
		r := codec.Read(writtenBy(t, l))
		for _, p := range l {
			var v any
			r, v = p.ask.of(r)
			if r.Fault != (api.Fault{}) || !same(v, p.v) {
				t.Fatalf("%s: %s, want %s (%s)", brief(p.ask), brief(v), brief(p.v), brief(r))
			}
		}
		if f := codec.End(r); f != (api.Fault{}) || r.At != len(r.S) {
			t.Fatalf("%v, at %d of %d", f, r.At, len(r.S))
		}
	}
	// Strings that are written together are read one by one.
	r := codec.Read("\x01a\x00\x02bc")
	if w := codec.PutString(codec.Make(6), "a", "", "bc"); w.S != r.S || w.Err != api.OK {
		t.Error(w)
	}
	for _, want := range []string{"a", "", "bc"} {
		var s string
		if r, s = codec.String(r, 2); s != want {
			t.Errorf("%q, want %q", s, want)
		}
	}
	if f := codec.End(r); f != (api.Fault{}) {
		t.Error(f)
	}
}

// P5.6: what was read, written again, and what is left are the whole string.
func TestNothingIsLost(t *testing.T) {
	random := rand.New(rand.NewSource(56))
	all := slices.DeleteFunc(asks(), func(a ask) bool { return a.most < 0 })
	reads := 0
	for _, s := range append(strung(), writtenBy(t, pieces(random)), writtenBy(t, pieces(random)), strings.Repeat("\x03\x01\x02\x00", 100)) {
		for range 300 {
			r, w := codec.Read(s), codec.Make(longest)
			for r.Fault == (api.Fault{}) {
				a := all[random.Intn(len(all))]
				q, v := a.of(r)
				if q.At < r.At || q.S != s {
					t.Fatalf("%s of %s: %s", brief(a), brief(r), brief(q))
				}
				if q.Fault == (api.Fault{}) {
					w = rewritten(w, a, v)
					reads++
				}
				r = q
				if got, e := codec.Done(w); e != api.OK || got+s[r.At:] != s || len(got) != r.At {
					t.Fatalf("%q is read, and %q is left of %q (%v)", got, s[r.At:], s, e)
				}
			}
		}
	}
	if reads < 1000 {
		t.Errorf("only %d fields were read", reads)
	}
}

// rewritten returns w with the field v that was read behind it.
func rewritten(w api.Writer, a ask, v any) api.Writer {
	switch v := v.(type) {
	case int:
		return codec.Put(w, uint64(v))
	case uint64:
		return codec.Put(w, v)
	case []int:
		return codec.PutInts(w, v)
	case string:
		if a.kind == 'f' {
			return codec.Add(w, v)
		}
		return codec.PutString(w, v)
	}
	return api.Writer{}
}

// P5.7: readers.
func TestReadersWithFaultStay(t *testing.T) {
	few := []ask{number(0, 9), number(0, math.MaxInt), number(9, 6), wide(math.MaxUint64), wide(0), sized(9), sized(-1), sized(math.MaxInt), ints(9, -9, 9), ints(-1, 0, 0), ints(1, 1, 0), fixed(0), fixed(1), fixed(-1), fixed(math.MaxInt)}
	for _, r := range failedReaders() {
		for _, a := range few {
			if q, v := a.of(r); q != r || !a.bare(v) {
				t.Fatalf("%s of %s: %s, %v", brief(a), brief(r), brief(q), v)
			}
		}
		for _, err := range []api.Errno{-1, 0, api.ErrNil, api.ErrForm, api.ErrVersion, 32} {
			for _, n := range []int{-1, 0, 1, longest} {
				if q := codec.Fail(r, err, n); q != r {
					t.Fatalf("Fail(%s, %d, %d) = %s", brief(r), int(err), n, brief(q))
				}
			}
		}
		if f := codec.End(r); f != r.Fault {
			t.Fatalf("End(%s) = %v", brief(r), f)
		}
	}
	// It is the first one of two faults that stays.
	r, _ := codec.Number(codec.Read("\x05\x80\x00"), 0, 4)
	if q, _ := codec.Wide(r, 9); q != r || q.Fault != at(api.ErrRange, 0) || codec.End(q) != q.Fault {
		t.Error(q)
	}
}

// P5.7: writers.
func TestWritersWithErrorStay(t *testing.T) {
	for _, w := range []api.Writer{{}, {Most: 9}, {S: "ab", Most: 9}, {S: "ab", Most: 2}, {S: strings.Repeat("a", longest), Most: longest}, {S: "\x00", Most: longest}} {
		for err := api.ErrNil; err <= api.ErrVersion; err++ {
			w.Err = err
			for _, p := range puts() {
				if got := p.put(w); got != w {
					t.Fatalf("%s to %s: %s", p.name, brief(w), brief(got))
				}
			}
			if s, e := codec.Done(w); s != "" || e != err {
				t.Fatalf("Done(%s) = %q, %v", brief(w), s, e)
			}
		}
	}
	// What would have room is not written behind what had none.
	if w := codec.Add(codec.Put(codec.Add(codec.Make(2), "a"), 300), "b"); w != (api.Writer{S: "a", Most: 2, Err: api.ErrLong}) {
		t.Error(w)
	}
}

// P5.8
func TestCutOff(t *testing.T) {
	random := rand.New(rand.NewSource(58))
	for range 500 {
		l := pieces(random)
		s := writtenBy(t, l)
		for n := range len(s) {
			if n > 40 && n < len(s)-40 && n%17 != 0 {
				continue
			}
			r := codec.Read(s[:n])
			for _, p := range l {
				r, _ = p.ask.of(r)
			}
			if r.Fault.Err != api.ErrShort || codec.End(r) != r.Fault {
				t.Fatalf("%s cut at %d: %s", brief(s), n, brief(r))
			}
		}
		// A cut behind what is read is not noticed.
		if len(l) == 0 {
			continue
		}
		last := writtenBy(t, l[:len(l)-1])
		r := codec.Read(last)
		for _, p := range l[:len(l)-1] {
			r, _ = p.ask.of(r)
		}
		if r != (api.Reader{S: last, At: len(last)}) {
			t.Fatalf("%s cut behind what is read: %s", brief(s), brief(r))
		}
	}
	// Of any string, too: what is read without a fault is short where the bytes are cut off, and the same where more follow.
	for _, s := range strung() {
		for _, a := range asks() {
			q, v := a.of(codec.Read(s))
			if q.Fault.Err != api.OK {
				continue
			}
			for n := range q.At {
				if p, _ := a.of(codec.Read(s[:n])); p.Fault.Err != api.ErrShort {
					t.Fatalf("%s of %x: %s", brief(a), s[:n], brief(p))
				}
			}
			if p, u := a.of(codec.Read(s[:q.At])); p != (api.Reader{S: s[:q.At], At: q.At}) || !same(u, v) {
				t.Fatalf("%s of %x: %s, %v", brief(a), s[:q.At], brief(p), u)
			}
		}
	}
}

// Terms: what is not valid counts as one without bytes, with ErrState.
func TestNotValid(t *testing.T) {
	for _, r := range wrongReaders() {
		if rightReader(r) {
			t.Fatalf("%s is valid", brief(r))
		}
		for _, a := range asks() {
			hold(t, a, r)
		}
		for _, err := range []api.Errno{0, api.ErrForm, api.ErrState, 32} {
			if q := codec.Fail(r, err, 1); q != spoiledReader {
				t.Errorf("Fail(%s, %d, 1) = %s", brief(r), int(err), brief(q))
			}
		}
		if f := codec.End(r); f != at(api.ErrState, 0) {
			t.Errorf("End(%s) = %v", brief(r), f)
		}
	}
	for _, w := range wrongWriters() {
		if rightWriter(w) {
			t.Fatalf("%s is valid", brief(w))
		}
		for _, p := range puts() {
			if got := p.put(w); got != spoiledWriter {
				t.Errorf("%s to %s: %s", p.name, brief(w), brief(got))
			}
		}
		if s, e := codec.Done(w); s != "" || e != api.ErrState {
			t.Errorf("Done(%s) = %q, %v", brief(w), s, e)
		}
	}
}

// Terms: what is just valid is not refused.
func TestJustValid(t *testing.T) {
	all := strings.Repeat("\x00", longest)
	if r, n := codec.Number(api.Reader{S: all, At: longest - 1}, 0, 0); n != 0 || r != (api.Reader{S: all, At: longest}) {
		t.Error(brief(r))
	}
	if r, s := codec.Fixed(api.Reader{S: all, At: longest}, 0); s != "" || r != (api.Reader{S: all, At: longest}) {
		t.Error(brief(r))
	}
	for _, f := range []api.Fault{at(1, 0), at(1, 2), at(31, 0), at(31, 2)} {
		for from := range 3 {
			if r := (api.Reader{S: "ab", At: from, Fault: f}); codec.End(r) != f || codec.Fail(r, 5, 0) != r {
				t.Error(r)
			}
		}
	}
	for _, w := range []api.Writer{{}, {Most: longest}, {S: "a", Most: 1}, {S: all, Most: longest}} {
		if got := codec.Add(w, ""); got != w {
			t.Error(brief(got))
		}
	}
}

// R4: arguments are not changed, and results share no memory.
func TestNothingIsShared(t *testing.T) {
	l := []int{-1, 2, 300}
	w := codec.PutInts(codec.Make(9), l)
	if !slices.Equal(l, []int{-1, 2, 300}) {
		t.Error("PutInts changed its argument")
	}
	clear(l)
	if s, e := codec.Done(w); s != "\x03\x01\x04\xd8\x04" || e != api.OK {
		t.Errorf("what was written changes with the argument: %x, %v", s, e)
	}
	texts := []string{"a", "", "bc"}
	v := codec.PutString(codec.Make(9), texts...)
	if !slices.Equal(texts, []string{"a", "", "bc"}) {
		t.Error("PutString changed its arguments")
	}
	clear(texts)
	if s, e := codec.Done(v); s != "\x01a\x00\x02bc" || e != api.OK {
		t.Errorf("what was written changes with the arguments: %x, %v", s, e)
	}
	r := codec.Read("\x03\x01\x04\xd8\x04")
	_, a := codec.Ints(r, 3, -1, 300)
	_, b := codec.Ints(r, 3, -1, 300)
	clear(a[:cap(a)])
	if !slices.Equal(b, []int{-1, 2, 300}) {
		t.Error("two lists share memory")
	}
	// A reader and a writer are values: from the same one the same comes, twice.
	if p, n := codec.Number(r, 3, 3); n != 3 || p.At != 1 || r != codec.Read("\x03\x01\x04\xd8\x04") {
		t.Error(p, n, r)
	}
	first, second := codec.Add(w, "x"), codec.Add(w, "yz")
	if first.S != w.S+"x" || second.S != w.S+"yz" {
		t.Error(first, second)
	}
}
