package varint_test

import (
	"cmp"
	"encoding/binary"
	"encoding/hex"
	"math"
	"slices"
	"strings"
	"testing"

	"stenotype/api"
	"stenotype/varint"
)

// fromHex returns the bytes that the document writes as hexadecimal numbers.
func fromHex(t *testing.T, s string) string {
	t.Helper()
	b, err := hex.DecodeString(strings.ReplaceAll(s, " ", ""))
	if err != nil {
		t.Fatal(err)
	}
	return string(b)
}

// samples are numbers of all sizes: those around each power of two, and some with mixed digits.
func samples() []uint64 {
	l := []uint64{0, 1, 300, 0x0123456789abcdef, 0xfedcba9876543210, math.MaxUint64}
	for i := range 64 {
		p := uint64(1) << i
		l = append(l, p-1, p, p+1, p|p>>3|p>>8)
	}
	slices.Sort(l)
	return slices.Compact(l)
}

// signedSamples are numbers of all sizes of both signs.
func signedSamples() []int64 {
	l := []int64{math.MinInt64, math.MinInt64 + 1, math.MaxInt64, math.MaxInt64 - 1}
	for n := range int64(1000) {
		l = append(l, n, -n)
	}
	for i := range 63 {
		p := int64(1) << i
		l = append(l, p-1, p, p+1, -p, -p-1, 1-p)
	}
	slices.Sort(l)
	return slices.Compact(l)
}

type readCase struct {
	s    string
	at   int
	n    uint64
	next int
	f    api.Fault
}

func checkRead(t *testing.T, c readCase) {
	t.Helper()
	n, next, f := varint.Read(c.s, c.at)
	if n != c.n || next != c.next || f != c.f {
		t.Errorf("Read(%x, %d) = %d, %d, %v; want %d, %d, %v", c.s, c.at, n, next, f, c.n, c.next, c.f)
	}
}

// P1.1, with the first row of the examples.
func TestBytesAndSize(t *testing.T) {
	for n, want := range map[uint64]string{
		0: "00", 127: "7f", 128: "80 01", 300: "ac 02", 16383: "ff 7f", 16384: "80 80 01",
		math.MaxUint64: "ff ff ff ff ff ff ff ff ff 01",
	} {
		if got := varint.Bytes(n); got != fromHex(t, want) {
			t.Errorf("Bytes(%d) = %x, want %s", n, got, want)
		}
	}
	if got := varint.Size(math.MaxUint64); got != 10 {
		t.Errorf("Size(2^64 - 1) = %d, want 10", got)
	}
	for _, n := range samples() {
		want := string(binary.AppendUvarint(nil, n))
		if got := varint.Bytes(n); got != want {
			t.Errorf("Bytes(%d) = %x, want %x", n, got, want)
		}
		if got := varint.Size(n); got != len(want) {
			t.Errorf("Size(%d) = %d, want %d", n, got, len(want))
		}
	}
}

// P1.1, with the fifth row of the examples.
func TestListWritesOneBehindTheOther(t *testing.T) {
	if got := varint.List([]uint64{1, 300}); got != "\x01\xac\x02" {
		t.Errorf("List(1 300) = %x", got)
	}
	if varint.List(nil) != "" || varint.List([]uint64{}) != "" {
		t.Error("the list without numbers has bytes")
	}
	var want []byte
	for _, n := range samples() {
		want = binary.AppendUvarint(want, n)
	}
	if got := varint.List(samples()); got != string(want) {
		t.Errorf("List(samples) = %x, want %x", got, want)
	}
}

// P1.2, with the second row of the examples.
func TestRead(t *testing.T) {
	s := "\xac\x02\x05"
	for _, c := range []readCase{
		{s: s, at: 0, n: 300, next: 2},
		{s: s, at: 1, n: 2, next: 2},
		{s: s, at: 2, n: 5, next: 3},
		{s: s, at: 3, f: api.Fault{Err: api.ErrShort, At: 3}},
		{s: s, at: 4, f: api.Fault{Err: api.ErrRange}},
		{s: s, at: -1, f: api.Fault{Err: api.ErrRange}},
		{s: s, at: math.MaxInt, f: api.Fault{Err: api.ErrRange}},
		{s: s, at: math.MinInt, f: api.Fault{Err: api.ErrRange}},
		{s: "", at: 0, f: api.Fault{Err: api.ErrShort}},
		{s: "", at: 1, f: api.Fault{Err: api.ErrRange}},
		{s: "\x00\x00", at: 1, next: 2},
		{s: "\x07\x80", at: 1, f: api.Fault{Err: api.ErrShort, At: 2}},
		{s: "\x07\x80\x00", at: 1, f: api.Fault{Err: api.ErrVarint, At: 2}},
		{s: "\x07\x80\x80\x00", at: 1, f: api.Fault{Err: api.ErrVarint, At: 3}},
		{s: "\x80\x00\xff", at: 0, f: api.Fault{Err: api.ErrVarint, At: 1}},
	} {
		checkRead(t, c)
	}
	for _, n := range samples() {
		v := varint.Bytes(n)
		checkRead(t, readCase{s: v, n: n, next: len(v)})
		checkRead(t, readCase{s: "\x80\x80" + v + "\x00\xff", at: 2, n: n, next: 2 + len(v)})
	}
}

// P1.2: the tenth byte has room for one bit, and is the last one.
func TestReadTenthByte(t *testing.T) {
	for _, front := range []string{"", "\x05\x06"} {
		at := len(front)
		tenth := api.Fault{Err: api.ErrVarint, At: at + 9}
		for _, digit := range []string{"\x80", "\xff", "\x81"} {
			nine := front + strings.Repeat(digit, 9)
			checkRead(t, readCase{s: nine, at: at, f: api.Fault{Err: api.ErrShort, At: at + 9}})
			for b := range 256 {
				if b != 1 {
					checkRead(t, readCase{s: nine + string([]byte{byte(b)}), at: at, f: tenth})
					checkRead(t, readCase{s: nine + string([]byte{byte(b), 1, 0}), at: at, f: tenth})
				}
			}
		}
		checkRead(t, readCase{s: front + strings.Repeat("\x80", 9) + "\x01\x01", at: at, n: 1 << 63, next: at + 10})
		checkRead(t, readCase{s: front + strings.Repeat("\xff", 9) + "\x01", at: at, n: math.MaxUint64, next: at + 10})
		// A byte that is wrong comes before the tenth one, and before the end of the string.
		checkRead(t, readCase{s: front + strings.Repeat("\x80", 8) + "\x00\x02", at: at, f: api.Fault{Err: api.ErrVarint, At: at + 8}})
	}
}

// P1.3, with the third row of the examples.
func TestParse(t *testing.T) {
	nine := strings.Repeat("\xff", 9)
	for _, c := range []struct {
		s string
		n uint64
		f api.Fault
	}{
		{"\x80\x00", 0, api.Fault{Err: api.ErrVarint, At: 1}},
		{"\x80", 0, api.Fault{Err: api.ErrShort, At: 1}},
		{"", 0, api.Fault{Err: api.ErrShort}},
		{"\x05\x06", 0, api.Fault{Err: api.ErrLong, At: 1}},
		{"\xac\x02\x80\x00", 0, api.Fault{Err: api.ErrLong, At: 2}},
		{nine + "\x01", math.MaxUint64, api.Fault{}},
		{nine + "\x02", 0, api.Fault{Err: api.ErrVarint, At: 9}},
		{nine + "\x01\x00", 0, api.Fault{Err: api.ErrLong, At: 10}},
		{"\x00", 0, api.Fault{}},
		{"\xac\x02", 300, api.Fault{}},
	} {
		if n, f := varint.Parse(c.s); n != c.n || f != c.f {
			t.Errorf("Parse(%x) = %d, %v; want %d, %v", c.s, n, f, c.n, c.f)
		}
	}
}

// P1.3, with the fourth row of the examples.
func TestBounded(t *testing.T) {
	s := "\x05\xac\x02"
	for _, c := range []struct {
		s    string
		at   int
		most uint64
		n    uint64
		next int
		f    api.Fault
	}{
		{s, 1, 300, 300, 3, api.Fault{}},
		{s, 1, 301, 300, 3, api.Fault{}},
		{s, 1, math.MaxUint64, 300, 3, api.Fault{}},
		{s, 1, 299, 0, 0, api.Fault{Err: api.ErrRange, At: 1}},
		{s, 0, 4, 0, 0, api.Fault{Err: api.ErrRange}},
		{s, 2, 0, 0, 0, api.Fault{Err: api.ErrRange, At: 2}},
		{s, 3, 0, 0, 0, api.Fault{Err: api.ErrShort, At: 3}},
		{s, 4, 0, 0, 0, api.Fault{Err: api.ErrRange}},
		{s, -1, 0, 0, 0, api.Fault{Err: api.ErrRange}},
		{"\x00", 0, 0, 0, 1, api.Fault{}},
		{"\xff\x00", 0, 0, 0, 0, api.Fault{Err: api.ErrVarint, At: 1}},
		{"\xff", 0, 0, 0, 0, api.Fault{Err: api.ErrShort, At: 1}},
		{strings.Repeat("\xff", 9) + "\x01", 0, math.MaxUint64, math.MaxUint64, 10, api.Fault{}},
		{strings.Repeat("\xff", 9) + "\x01", 0, math.MaxUint64 - 1, 0, 0, api.Fault{Err: api.ErrRange}},
	} {
		if n, next, f := varint.Bounded(c.s, c.at, c.most); n != c.n || next != c.next || f != c.f {
			t.Errorf("Bounded(%x, %d, %d) = %d, %d, %v", c.s, c.at, c.most, n, next, f)
		}
	}
}

// P1.4, with the fifth row of the examples.
func TestReadList(t *testing.T) {
	s := "\x01\xac\x02"
	for _, c := range []struct {
		s    string
		many int
		l    []uint64
		f    api.Fault
	}{
		{s, 2, []uint64{1, 300}, api.Fault{}},
		{s, 1, nil, api.Fault{Err: api.ErrLong, At: 1}},
		{s, 3, nil, api.Fault{Err: api.ErrShort, At: 3}},
		{"", 0, nil, api.Fault{}},
		{s, 0, nil, api.Fault{Err: api.ErrLong}},
		{"", 1, nil, api.Fault{Err: api.ErrShort}},
		{s, -1, nil, api.Fault{Err: api.ErrRange}},
		{s, math.MinInt, nil, api.Fault{Err: api.ErrRange}},
		{s, api.MaxText, nil, api.Fault{Err: api.ErrShort, At: 3}},
		{s, api.MaxText + 1, nil, api.Fault{Err: api.ErrRange}},
		{s, math.MaxInt, nil, api.Fault{Err: api.ErrRange}},
		{"\x01\x80\x00\x80", 2, nil, api.Fault{Err: api.ErrVarint, At: 2}},
		{"\x01\x80\x00\x80", 1, nil, api.Fault{Err: api.ErrLong, At: 1}},
		{"\x01\x80", 2, nil, api.Fault{Err: api.ErrShort, At: 2}},
	} {
		l, f := varint.ReadList(c.s, c.many)
		if f != c.f || !slices.Equal(l, c.l) {
			t.Errorf("ReadList(%x, %d) = %v, %v; want %v, %v", c.s, c.many, l, f, c.l, c.f)
		}
	}
}

// P1.4: a list may have as many as MaxText numbers, and no more.
func TestReadListLongest(t *testing.T) {
	s := strings.Repeat("\x80\x01", api.MaxText)
	l, f := varint.ReadList(s, api.MaxText)
	if f != (api.Fault{}) || !slices.Equal(l, slices.Repeat([]uint64{128}, api.MaxText)) {
		t.Errorf("%d numbers, %v", len(l), f)
	}
	if l, f := varint.ReadList(s+"\x00", api.MaxText+1); len(l) != 0 || f != (api.Fault{Err: api.ErrRange}) {
		t.Errorf("one more: %d numbers, %v", len(l), f)
	}
}

// P1.5, with the sixth row of the examples.
func TestZigzag(t *testing.T) {
	for n, want := range map[int64]uint64{
		0: 0, -1: 1, 1: 2, -2: 3, 2: 4, math.MaxInt64: math.MaxUint64 - 1, math.MinInt64: math.MaxUint64,
	} {
		if got := varint.Zigzag(n); got != want {
			t.Errorf("Zigzag(%d) = %d, want %d", n, got, want)
		}
		if got := varint.Unzigzag(want); got != n {
			t.Errorf("Unzigzag(%d) = %d, want %d", want, got, n)
		}
	}
	for _, n := range signedSamples() {
		want := 2 * uint64(n)
		if n < 0 {
			want = 2*uint64(-(n+1)) + 1
		}
		if got := varint.Zigzag(n); got != want {
			t.Errorf("Zigzag(%d) = %d, want %d", n, got, want)
		}
	}
}

// shortStrings calls visit with all strings of at most two bytes, and with strings of three bytes that begin with the bytes at the edges.
func shortStrings(visit func(s string)) {
	visit("")
	for a := range 256 {
		visit(string([]byte{byte(a)}))
		for b := range 256 {
			visit(string([]byte{byte(a), byte(b)}))
		}
	}
	for _, a := range []byte{0x00, 0x01, 0x7f, 0x80, 0x81, 0xff} {
		for b := range 256 {
			for c := range 256 {
				visit(string([]byte{a, byte(b), byte(c)}))
			}
		}
	}
}

// P1.6 (and P2): what is read is what was written, and nothing else is read as a number.
func TestReadFromItsVarintOnly(t *testing.T) {
	for _, n := range samples() {
		if m, f := varint.Parse(varint.Bytes(n)); m != n || f != (api.Fault{}) {
			t.Errorf("%d is read as %d, %v", n, m, f)
		}
	}
	shortStrings(func(s string) {
		n, f := varint.Parse(s)
		if f == (api.Fault{}) && varint.Bytes(n) != s {
			t.Errorf("%x is read as %d, whose varint is %x", s, n, varint.Bytes(n))
		}
	})
}

// P1.6: a varint is no beginning of another one.
func TestNoVarintBeginsAnother(t *testing.T) {
	for _, n := range samples() {
		v := varint.Bytes(n)
		for i := range len(v) {
			checkRead(t, readCase{s: v[:i], f: api.Fault{Err: api.ErrShort, At: i}})
		}
		for _, m := range samples() {
			if m != n && strings.HasPrefix(v, varint.Bytes(m)) {
				t.Errorf("the varint of %d begins with that of %d", n, m)
			}
		}
	}
}

// P1.7
func TestSizeGrows(t *testing.T) {
	before := 1
	for _, n := range samples() {
		size := varint.Size(n)
		if size < before || size != len(varint.Bytes(n)) {
			t.Errorf("Size(%d) = %d, the one below has %d", n, size, before)
		}
		// Seven bits a byte are enough, and with one byte less they would not be.
		if n>>(7*size) != 0 || size > 1 && n>>(7*(size-1)) == 0 {
			t.Errorf("Size(%d) = %d does not fit", n, size)
		}
		before = size
	}
}

// P1.8
func TestListsReadBackAndJoin(t *testing.T) {
	all := samples()
	for cut := range len(all) + 1 {
		front, back := all[:cut], all[cut:]
		s := varint.List(front)
		if l, f := varint.ReadList(s, len(front)); f != (api.Fault{}) || !slices.Equal(l, front) {
			t.Errorf("the first %d are read as %v, %v", cut, l, f)
		}
		if s+varint.List(back) != varint.List(all) {
			t.Errorf("the lists cut at %d do not join", cut)
		}
	}
	if l, f := varint.ReadList(varint.List(all), len(all)); f != (api.Fault{}) || !slices.Equal(l, all) {
		t.Errorf("both are read as %v, %v", l, f)
	}
}

// P1.9
func TestZigzagIsOneToOneAndKeepsOrder(t *testing.T) {
	for _, n := range signedSamples() {
		if got := varint.Unzigzag(varint.Zigzag(n)); got != n {
			t.Errorf("%d comes back as %d", n, got)
		}
	}
	for _, n := range samples() {
		if got := varint.Zigzag(varint.Unzigzag(n)); got != n {
			t.Errorf("%d comes back as %d", n, got)
		}
	}
	l := signedSamples()
	slices.SortFunc(l, func(a, b int64) int { return cmp.Compare(abs(a), abs(b)) })
	for i := 1; i < len(l); i++ {
		if abs(l[i-1]) < abs(l[i]) && varint.Zigzag(l[i-1]) >= varint.Zigzag(l[i]) {
			t.Errorf("%d is nearer to 0 than %d, but its Zigzag is not below", l[i-1], l[i])
		}
	}
}

// abs returns how far n is from 0.
func abs(n int64) uint64 {
	if n < 0 {
		return -uint64(n)
	}
	return uint64(n)
}

// R3: with a fault everything else is 0. P1: no string and no number makes a function panic.
func TestFaultsComeAlone(t *testing.T) {
	offsets := []int{math.MinInt, -1, 0, 1, 2, 3, 4, math.MaxInt}
	shortStrings(func(s string) {
		for _, at := range offsets {
			n, next, f := varint.Read(s, at)
			if f.Err != api.OK && (n != 0 || next != 0) || f.Err == api.OK && f.At != 0 {
				t.Errorf("Read(%x, %d) = %d, %d, %v", s, at, n, next, f)
			}
			n, next, f = varint.Bounded(s, at, 100)
			if f.Err != api.OK && (n != 0 || next != 0) || f.Err == api.OK && f.At != 0 {
				t.Errorf("Bounded(%x, %d, 100) = %d, %d, %v", s, at, n, next, f)
			}
		}
		for many := -1; many <= 3; many++ {
			if l, f := varint.ReadList(s, many); f.Err != api.OK && len(l) != 0 || f.Err == api.OK && (f.At != 0 || len(l) != many) {
				t.Errorf("ReadList(%x, %d) = %v, %v", s, many, l, f)
			}
		}
	})
}

// R4: arguments are not changed, and results share no memory.
func TestNothingIsShared(t *testing.T) {
	l := samples()
	s := varint.List(l)
	if !slices.Equal(l, samples()) {
		t.Error("List changed its argument")
	}
	a, _ := varint.ReadList(s, len(l))
	b, _ := varint.ReadList(s, len(l))
	clear(a)
	if !slices.Equal(b, samples()) {
		t.Error("two results of ReadList share memory")
	}
	clear(l)
	if s != varint.List(samples()) {
		t.Error("the result of List changes with its argument")
	}
}
