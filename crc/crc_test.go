package crc_test

import (
	"encoding/binary"
	"hash/crc32"
	"math"
	"math/rand"
	"slices"
	"strings"
	"testing"

	"stenotype/api"
	"stenotype/crc"
)

const (
	// burst is how far apart the first and the last turned bit may be at most.
	burst = 31
	// tail is how many bytes a seal has.
	tail = 4
)

// mixed returns n bytes of all kinds, the same ones in each run.
func mixed(n int) string {
	b := make([]byte, n)
	rand.New(rand.NewSource(int64(n))).Read(b)
	return string(b)
}

// samples are strings of many lengths: with equal bytes, with mixed ones, and the longest one that can be sealed.
func samples() []string {
	l := []string{"", "a", "abc", "123456789", "stenotype", strings.Repeat("\x00", 5), strings.Repeat("\xff", 5)}
	for n := range 40 {
		l = append(l, mixed(n))
	}
	for b := range 256 {
		l = append(l, string([]byte{byte(b)}))
	}
	return append(l, mixed(1000), mixed(api.MaxText))
}

// states are states of all kinds, not only those that strings lead to.
func states() []uint32 {
	l := []uint32{0, 1, 255, 256, 1 << 31, 1<<32 - 1, 0xEDB88320, 0x12345678}
	for _, s := range samples()[:20] {
		l = append(l, crc32.ChecksumIEEE([]byte(s)))
	}
	return l
}

// seal returns s sealed, which must succeed.
func seal(t *testing.T, s string) string {
	t.Helper()
	x, e := crc.Seal(s)
	if e != api.OK {
		t.Fatalf("Seal of %d bytes: %v", len(s), e)
	}
	return x
}

// xor returns the exclusive or of strings of one length.
func xor(l ...string) string {
	b := make([]byte, len(l[0]))
	for _, s := range l {
		for i := range b {
			b[i] ^= s[i]
		}
	}
	return string(b)
}

// P2.1, with the first row of the examples.
func TestOf(t *testing.T) {
	if n := crc.Of(); n != 0 {
		t.Errorf("Of() = %x, want 0", n)
	}
	if n := crc.Of("123456789"); n != 0xCBF43926 {
		t.Errorf("Of(123456789) = %x, want cbf43926", n)
	}
	if n := crc.Of("1234", "56789"); n != 0xCBF43926 {
		t.Errorf("Of(1234, 56789) = %x, want cbf43926", n)
	}
	for _, s := range samples() {
		if n, want := crc.Of(s), crc32.ChecksumIEEE([]byte(s)); n != want {
			t.Errorf("Of(%.40x) = %x, want %x", s, n, want)
		}
	}
}

// P2.1: the strings count one behind the other, empty ones too.
func TestOfMany(t *testing.T) {
	all := samples()
	want := crc32.ChecksumIEEE([]byte(strings.Join(all, "")))
	if n := crc.Of(all...); n != want {
		t.Errorf("Of(all samples) = %x, want %x", n, want)
	}
	if crc.Of("", "a", "", "b", "") != crc.Of("ab") || crc.Of("", "") != 0 {
		t.Error("empty strings count")
	}
	if crc.Of("a", "b") == crc.Of("b", "a") {
		t.Error("the order does not count")
	}
}

// P2.1: Start and End.
func TestStartAndEnd(t *testing.T) {
	if c := crc.Start(); c != math.MaxUint32 {
		t.Errorf("Start() = %x", c)
	}
	for _, c := range states() {
		if n := crc.End(c); n != math.MaxUint32-c {
			t.Errorf("End(%x) = %x, want %x", c, n, math.MaxUint32-c)
		}
	}
}

// P2.1: Add, for states of all kinds.
func TestAdd(t *testing.T) {
	for _, c := range states() {
		for _, s := range samples() {
			// The package of the library begins and ends with a CRC, and not with a state.
			want := ^crc32.Update(^c, crc32.IEEETable, []byte(s))
			if n := crc.Add(c, s); n != want {
				t.Errorf("Add(%x, %.40x) = %x, want %x", c, s, n, want)
			}
		}
		if n := crc.Add(c, ""); n != c {
			t.Errorf("Add(%x, the empty string) = %x", c, n)
		}
	}
}

// P2.1, with the second row of the examples.
func TestTable(t *testing.T) {
	for i, want := range map[int]uint32{0: 0, 1: 0x77073096, 128: 0xEDB88320} {
		if n, e := crc.Table(i); n != want || e != api.OK {
			t.Errorf("Table(%d) = %x, %v; want %x", i, n, e, want)
		}
	}
	for i, want := range crc32.IEEETable {
		if n, e := crc.Table(i); n != want || e != api.OK {
			t.Errorf("Table(%d) = %x, %v; want %x", i, n, e, want)
		}
	}
	for _, i := range []int{256, 257, 512, -1, -256, math.MaxInt, math.MinInt, math.MaxInt32 + 2} {
		if n, e := crc.Table(i); n != 0 || e != api.ErrRange {
			t.Errorf("Table(%d) = %x, %v; want ErrRange", i, n, e)
		}
	}
}

// P2.2, with the third row of the examples.
func TestSeal(t *testing.T) {
	if x := seal(t, ""); x != "\x00\x00\x00\x00" {
		t.Errorf("Seal(the empty string) = %x", x)
	}
	if x := seal(t, "123456789"); x != "123456789\x26\x39\xf4\xcb" {
		t.Errorf("Seal(123456789) = %x", x)
	}
	for _, s := range samples() {
		want := string(binary.LittleEndian.AppendUint32([]byte(s), crc32.ChecksumIEEE([]byte(s))))
		if x := seal(t, s); x != want {
			t.Errorf("Seal(%.40x) = %.60x, want %.60x", s, x, want)
		}
	}
}

// P2.2: the longest strings.
func TestLongStrings(t *testing.T) {
	seal(t, mixed(api.MaxText))
	for _, n := range []int{api.MaxText + 1, api.MaxText + 5, 2 * api.MaxText} {
		if x, e := crc.Seal(mixed(n)); x != "" || e != api.ErrLong {
			t.Errorf("Seal of %d bytes: %d bytes, %v; want ErrLong", n, len(x), e)
		}
	}
	// What is too long is refused as that, whether its last bytes are a seal or not.
	long := mixed(api.MaxText + 1)
	sealed := string(binary.LittleEndian.AppendUint32([]byte(long), crc32.ChecksumIEEE([]byte(long))))
	for _, x := range []string{sealed, long + "abcd", mixed(3 * api.MaxText)} {
		if s, e := crc.Open(x); s != "" || e != api.ErrLong {
			t.Errorf("Open of %d bytes: %d bytes, %v; want ErrLong", len(x), len(s), e)
		}
	}
	if s, e := crc.Open(long[1:] + "abcd"); s != "" || e != api.ErrSum {
		t.Errorf("Open of %d bytes: %d bytes, %v; want ErrSum", api.MaxText+tail, len(s), e)
	}
}

// P2.2, with the third row of the examples.
func TestOpen(t *testing.T) {
	flipped, _ := crc.Flip(seal(t, "ab"), 0)
	for _, c := range []struct {
		x, s string
		e    api.Errno
	}{
		{"\x00\x00\x00\x00", "", api.OK},
		{"123456789\x26\x39\xf4\xcb", "123456789", api.OK},
		{"", "", api.ErrShort},
		{"a", "", api.ErrShort},
		{"abc", "", api.ErrShort},
		{"\x00\x00\x00", "", api.ErrShort},
		{"abcd", "", api.ErrSum},
		{flipped, "", api.ErrSum},
		// The seal has its lowest byte first, and stands behind the string.
		{"123456789\xcb\xf4\x39\x26", "", api.ErrSum},
		{"\x26\x39\xf4\xcb123456789", "", api.ErrSum},
		// A sealed string with a byte less or a byte more is none.
		{"23456789\x26\x39\xf4\xcb", "", api.ErrSum},
		{"123456789\x26\x39\xf4", "", api.ErrSum},
		{"123456789\x26\x39\xf4\xcb\x00", "", api.ErrSum},
		{"\x00\x00\x00\x00\x00", "", api.ErrSum},
		{"\xff\xff\xff\xff", "", api.ErrSum},
	} {
		if s, e := crc.Open(c.x); s != c.s || e != c.e {
			t.Errorf("Open(%x) = %x, %v; want %x, %v", c.x, s, e, c.s, c.e)
		}
	}
}

// P2.3, with the fourth row of the examples.
func TestFlip(t *testing.T) {
	for _, c := range []struct {
		s    string
		bits []int
		want string
		e    api.Errno
	}{
		{"a", []int{0}, "\x60", api.OK},
		{"a", []int{1, 1}, "a", api.OK},
		{"a", []int{1, 1, 1}, "c", api.OK},
		{"a", []int{1, 7, 1}, "\xe1", api.OK},
		{"a", nil, "a", api.OK},
		{"", nil, "", api.OK},
		{"\x00\x00\x00", []int{23, 0, 8, 15}, "\x01\x81\x80", api.OK},
		{"a", []int{8}, "", api.ErrRange},
		{"a", []int{-1}, "", api.ErrRange},
		{"a", []int{-8}, "", api.ErrRange},
		{"", []int{0}, "", api.ErrRange},
		{"ab", []int{16}, "", api.ErrRange},
		// One number that is wrong is enough, wherever it stands, and however often.
		{"ab", []int{3, 16}, "", api.ErrRange},
		{"ab", []int{16, 3}, "", api.ErrRange},
		{"ab", []int{3, 16, 16, 3}, "", api.ErrRange},
		{"a", []int{math.MaxInt}, "", api.ErrRange},
		{"a", []int{math.MinInt}, "", api.ErrRange},
		{"a", []int{1 << 32}, "", api.ErrRange},
	} {
		if s, e := crc.Flip(c.s, c.bits...); s != c.want || e != c.e {
			t.Errorf("Flip(%x, %v) = %x, %v; want %x, %v", c.s, c.bits, s, e, c.want, c.e)
		}
	}
}

// P2.3: bit i is the bit i % 8, from the lowest on, of the byte i / 8.
func TestFlipEachBit(t *testing.T) {
	s := mixed(20)
	for i := range 8 * len(s) {
		want := []byte(s)
		want[i/8] ^= byte(1) << (i % 8)
		got, e := crc.Flip(s, i)
		if got != string(want) || e != api.OK {
			t.Errorf("Flip(%x, %d) = %x, %v", s, i, got, e)
		}
		if l, e := crc.Bits(s, got); !slices.Equal(l, []int{i}) || e != api.OK {
			t.Errorf("bit %d is seen as %v, %v", i, l, e)
		}
	}
}

// P2.3, with the fourth row of the examples.
func TestBits(t *testing.T) {
	for _, c := range []struct {
		a, b string
		l    []int
		e    api.Errno
	}{
		{"a", "c", []int{1}, api.OK},
		{"a", "a", nil, api.OK},
		{"", "", nil, api.OK},
		{"\x00", "\xff", []int{0, 1, 2, 3, 4, 5, 6, 7}, api.OK},
		{"\x00\x00\x00", "\x01\x81\x80", []int{0, 8, 15, 23}, api.OK},
		{"\x01\x81\x80", "\x00\x00\x00", []int{0, 8, 15, 23}, api.OK},
		{"a", "", nil, api.ErrRange},
		{"", "a", nil, api.ErrRange},
		{"ab", "abc", nil, api.ErrRange},
		{"abc", "ab", nil, api.ErrRange},
	} {
		if l, e := crc.Bits(c.a, c.b); !slices.Equal(l, c.l) || e != c.e {
			t.Errorf("Bits(%x, %x) = %v, %v; want %v, %v", c.a, c.b, l, e, c.l, c.e)
		}
	}
}

// P2.3: the numbers lead from one string to the other, and ascend.
func TestBitsLeadBack(t *testing.T) {
	for n := range 40 {
		a, b := mixed(n), xor(mixed(n), mixed(2 * n)[n:])
		l, e := crc.Bits(a, b)
		for i := 1; i < len(l); i++ {
			if l[i-1] >= l[i] {
				t.Errorf("%d stands before %d", l[i-1], l[i])
			}
		}
		if s, f := crc.Flip(a, l...); s != b || e != api.OK || f != api.OK {
			t.Errorf("from %x to %x: %v leads to %x", a, b, l, s)
		}
	}
}

// P2.4
func TestSealedStringsOpen(t *testing.T) {
	for _, s := range samples() {
		if got, e := crc.Open(seal(t, s)); got != s || e != api.OK {
			t.Errorf("%.40x comes back as %.40x, %v", s, got, e)
		}
	}
	// A sealed string can be sealed as any other one.
	twice := seal(t, seal(t, "stenotype"))
	once, _ := crc.Open(twice)
	if s, e := crc.Open(once); s != "stenotype" || e != api.OK {
		t.Errorf("sealed twice, the string comes back as %x, %v", s, e)
	}
}

// checkRefused checks that the sealed string x with these bits turned is refused.
func checkRefused(t *testing.T, x string, bits []int) {
	t.Helper()
	y, e := crc.Flip(x, bits...)
	if e != api.OK {
		t.Fatalf("Flip(%d bytes, %v): %v", len(x), bits, e)
	}
	if s, e := crc.Open(y); s != "" || e != api.ErrSum {
		t.Errorf("%.40x with %v turned: %.40x, %v; want ErrSum", x, bits, s, e)
	}
}

// between returns the bits from first to last: these two, and those between them of which the pattern has a bit.
func between(first, last int, pattern uint32) []int {
	l := []int{first}
	for i := first + 1; i < last; i++ {
		if pattern>>(i-first)&1 == 1 {
			l = append(l, i)
		}
	}
	if last > first {
		l = append(l, last)
	}
	return l
}

// P2.5: bursts of all lengths at all places, with patterns of all kinds between their ends.
func TestBurstsAreRefused(t *testing.T) {
	r := rand.New(rand.NewSource(32))
	for _, s := range []string{"", "a", "stenotype", mixed(30)} {
		x := seal(t, s)
		for first := range 8 * len(x) {
			for last := first; last <= first+burst && last < 8*len(x); last++ {
				for _, pattern := range []uint32{0, math.MaxUint32, 0x55555555, r.Uint32(), r.Uint32()} {
					checkRefused(t, x, between(first, last, pattern))
				}
			}
		}
	}
}

// P2.5: the longest strings; the bursts are at their ends, at the seal, and across its edge.
func TestBurstsOfLongStringsAreRefused(t *testing.T) {
	r := rand.New(rand.NewSource(64))
	x := seal(t, mixed(api.MaxText))
	all := 8 * len(x)
	for _, first := range []int{0, 1, 80000, all - 64, all - 33, all - 32, all - 31, all - 8, all - 1} {
		for _, span := range []int{0, 1, 7, 8, 30, burst} {
			if first+span < all {
				checkRefused(t, x, between(first, first+span, r.Uint32()))
			}
		}
	}
}

// P2.6
func TestExclusiveOrOfThree(t *testing.T) {
	for n := range 60 {
		rest := mixed(5 * n)
		a, b, c := mixed(n), rest[n:2*n], rest[4*n:]
		if got, want := crc.Of(xor(a, b, c)), crc.Of(a)^crc.Of(b)^crc.Of(c); got != want {
			t.Errorf("%x, %x and %x: %x, want %x", a, b, c, got, want)
		}
		zero, full := strings.Repeat("\x00", n), strings.Repeat("\xff", n)
		if got, want := crc.Of(xor(a, zero, full)), crc.Of(a)^crc.Of(zero)^crc.Of(full); got != want {
			t.Errorf("%x turned: %x, want %x", a, got, want)
		}
	}
}

// P2.7
func TestStateInParts(t *testing.T) {
	s := mixed(50)
	for _, c := range states() {
		for cut := range len(s) + 1 {
			if got, want := crc.Add(crc.Add(c, s[:cut]), s[cut:]), crc.Add(c, s); got != want {
				t.Errorf("from %x, cut at %d: %x, want %x", c, cut, got, want)
			}
		}
	}
	for _, s := range samples() {
		c := crc.Start()
		for i := range len(s) {
			c = crc.Add(c, s[i:i+1])
		}
		if c != crc.Add(crc.Start(), s) || crc.End(c) != crc.Of(s) {
			t.Errorf("%.40x: byte by byte the state is %x", s, c)
		}
	}
}

// rank returns how many of the numbers are independent of each other by exclusive or.
func rank(l []uint32) int {
	n := 0
	for bit := range 32 {
		at := slices.IndexFunc(l, func(x uint32) bool { return x>>bit&1 == 1 })
		if at < 0 {
			continue
		}
		pivot := l[at]
		l = slices.Delete(slices.Clone(l), at, at+1)
		for i := range l {
			if l[i]>>bit&1 == 1 {
				l[i] ^= pivot
			}
		}
		n++
	}
	return n
}

// P2.8: what the bits of the last 4 bytes change is independent, so with P2.6 no two of their 2^32 values have one CRC.
func TestLastBytesAreIndependent(t *testing.T) {
	for n := range 20 {
		s := mixed(n) + "\x00\x00\x00\x00"
		var l []uint32
		for i := 8 * n; i < 8*len(s); i++ {
			y, _ := crc.Flip(s, i)
			l = append(l, crc.Of(y)^crc.Of(s))
		}
		if rank(l) != 32 {
			t.Errorf("behind %d bytes, only %d of 32 bits are independent", n, rank(l))
		}
	}
}

// P2.8: strings with other last 4 bytes have other CRCs.
func TestLastBytesTell(t *testing.T) {
	for _, front := range []string{"", "x", "stenotype"} {
		seen := map[uint32]uint32{}
		for i := range uint32(1 << 16) {
			// All values of the two lowest bytes, and as many that are spread over all of them.
			for _, v := range []uint32{i, i * 0x9E3779B1} {
				n := crc.Of(front, string(binary.LittleEndian.AppendUint32(nil, v)))
				if w, ok := seen[n]; ok && w != v {
					t.Fatalf("behind %q, %x and %x have one CRC", front, v, w)
				}
				seen[n] = v
			}
		}
	}
}

// R3: with an error there is no other result.
func TestErrorsComeAlone(t *testing.T) {
	if s, e := crc.Flip("abc", 1, 2, 24); s != "" || e != api.ErrRange {
		t.Errorf("Flip: %x, %v", s, e)
	}
	if l, e := crc.Bits("abc", "xyzw"); len(l) != 0 || e != api.ErrRange {
		t.Errorf("Bits: %v, %v", l, e)
	}
	for i := -300; i < 600; i++ {
		if n, e := crc.Table(i); e != api.OK && n != 0 || (e == api.OK) != (0 <= i && i < 256) {
			t.Errorf("Table(%d) = %x, %v", i, n, e)
		}
	}
}

// R4: arguments are not changed, and results share no memory.
func TestNothingIsShared(t *testing.T) {
	l := []string{"abc", "", "def"}
	crc.Of(l...)
	if !slices.Equal(l, []string{"abc", "", "def"}) {
		t.Error("Of changed its argument")
	}
	bits := []int{5, 1, 1, 9}
	crc.Flip("ab", bits...)
	if !slices.Equal(bits, []int{5, 1, 1, 9}) {
		t.Error("Flip changed its argument")
	}
	a, _ := crc.Bits("ab", "xy")
	b, _ := crc.Bits("ab", "xy")
	want := slices.Clone(b)
	clear(a)
	if len(want) == 0 || !slices.Equal(b, want) {
		t.Error("two results of Bits share memory")
	}
}

// P1: no string and no number makes a function panic.
func TestAllBytesAreTaken(t *testing.T) {
	numbers := []int{math.MinInt, -1, 0, 7, 8, 31, 32, math.MaxInt32, math.MaxInt}
	l := append(samples(), mixed(api.MaxText+tail), mixed(api.MaxText+tail+1), "\xff\xfe\x80\x00")
	for _, s := range l {
		crc.Add(0, s)
		crc.Of(s, s)
		crc.Seal(s)
		crc.Open(s)
		for _, i := range numbers {
			if y, e := crc.Flip(s, i); (e == api.OK) != (i >= 0 && i < 8*len(s)) || e != api.OK && y != "" {
				t.Errorf("Flip(%d bytes, %d): %v", len(s), i, e)
			}
		}
		if l, e := crc.Bits(s, s); len(l) != 0 || e != api.OK {
			t.Errorf("a string differs from itself: %v, %v", l, e)
		}
	}
}
