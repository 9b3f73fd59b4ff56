package name_test

import (
	"bytes"
	"math"
	"math/rand"
	"regexp"
	"slices"
	"strconv"
	"strings"
	"testing"

	"stenotype/api"
	"stenotype/name"
)

const (
	// most is how many strings a list may have.
	most = 100
	// greatest is the greatest number of a name that Make makes.
	greatest = 9999
)

// form is what a word looks like, apart from its length.
var form = regexp.MustCompile(`\A[a-zA-Z][a-zA-Z0-9_]*\z`)

// languageWords are the words of the language.
var languageWords = []string{"lookahead", "token", "separator", "start"}

// wordError returns what Word must say of s.
func wordError(s string) api.Errno {
	switch {
	case s == "":
		return api.ErrShort
	case !form.MatchString(s):
		return api.ErrForm
	case len(s) > 12:
		return api.ErrLong
	}
	return api.OK
}

// checkError returns what Check must say of s.
func checkError(s string) api.Errno {
	if slices.Contains(languageWords, s) {
		return api.ErrName
	}
	return wordError(s)
}

// shortStrings are all strings of at most two bytes.
func shortStrings() []string {
	l := []string{""}
	for a := range 256 {
		l = append(l, string([]byte{byte(a)}))
		for b := range 256 {
			l = append(l, string([]byte{byte(a), byte(b)}))
		}
	}
	return l
}

// samples are strings of many kinds: names, words of the language and what is near to them, and what is no word.
func samples() []string {
	l := []string{
		"Abc_1", "a_", "A0", "z9_", "ab", "a b", " a", "a ", "a\n", "a\x00", "\xff", "a\xff", "\xff\xfe", "a-b", "a.b",
		"é", "aé", "éa", "É", "Ā", "ñame", "\u0430", "Ω", "a٣", "ａ", "a１", "a‿b", "日本", "tokens", "Token", "TOKEN", "star",
		"starts", "Start", "start ", "toke", "start1", "start_", "starttoken", "separators", "lookaheads", "LOOKAHEAD",
		"t0", "N0", "rule", "sep",
	}
	for _, front := range []string{"a", "Z", "m9_", "1", "_", "-", "é", "\xff"} {
		for n := 9; n < 16; n++ {
			l = append(l, front+strings.Repeat("x", n), front+strings.Repeat("X", n)+"-", front+strings.Repeat("_", n)+"é")
		}
	}
	l = append(l, strings.Repeat("a", 1000), strings.Repeat("a", 1000)+"-", strings.Repeat("9", 1000), strings.Repeat("a", api.MaxText))
	for _, s := range languageWords {
		l = append(l, s, s+"x", strings.ToUpper(s), s[:len(s)-1], s[1:])
	}
	return l
}

// lists are lists of many kinds: with repeated strings and without, with what is no name, and of all lengths that are allowed.
func lists() [][]string {
	l := [][]string{
		nil, {}, {""}, {"", ""}, {"a"}, {"a", "a"}, {"b", "a", "ab", "a"}, {"a", "b", "a", "b"}, {"a", "b", "b", "a"},
		{"t0", "t1"}, {"t1"}, {"N0", "t0", "N1"}, {"t00", "N00", "T0", "n0", "t", "N", "0"}, {"\xff", "é", "token", "a-b", "", "1"},
		samples()[:40], slices.Repeat([]string{"a"}, most), numbers("t", most), numbers("N", most),
	}
	r := rand.New(rand.NewSource(3))
	for n := range most + 1 {
		letters, tight := make([]string, n), make([]string, n)
		for i := range n {
			letters[i] = strconv.FormatInt(r.Int63n(5000), 36)
			tight[i] = []string{"t", "N"}[r.Intn(2)] + strconv.Itoa(r.Intn(n))
		}
		l = append(l, letters, tight)
	}
	return l
}

// numbers are the first n numbers, each behind the letter.
func numbers(letter string, n int) []string {
	var l []string
	for i := range n {
		l = append(l, letter+strconv.Itoa(i))
	}
	return l
}

// tooLong are lists that have too many strings.
func tooLong() [][]string {
	return [][]string{slices.Repeat([]string{"a"}, most+1), numbers("t", most+1), numbers("N", 5*most), make([]string, most+1)}
}

// sorted returns what Sorted returns for l, which must succeed.
func sorted(t *testing.T, l []string) []string {
	t.Helper()
	s, e := name.Sorted(l)
	if e != api.OK {
		t.Fatalf("Sorted of %d strings: %v", len(l), e)
	}
	return s
}

// fresh returns what Fresh returns for l, which must succeed.
func fresh(t *testing.T, l []string, capital bool) string {
	t.Helper()
	s, e := name.Fresh(l, capital)
	if e != api.OK {
		t.Fatalf("Fresh of %d strings: %v", len(l), e)
	}
	return s
}

// P3.1, with the first row of the examples.
func TestWord(t *testing.T) {
	for s, want := range map[string]api.Errno{
		"a": api.OK, "Abc_1": api.OK, "": api.ErrShort, "1a": api.ErrForm, "_a": api.ErrForm, "a-b": api.ErrForm,
		"abcdefghijklm": api.ErrLong, "abcdefghijkl": api.OK, "Z": api.OK, "z9_": api.OK,
		// The form counts first, whatever the length, and wherever the byte stands that is wrong.
		"abcdefghijkl-": api.ErrForm, "abcdefghijklm-": api.ErrForm, "-abcdefghijkl": api.ErrForm, "1abcdefghijkl": api.ErrForm,
		"_abcdefghijkl": api.ErrForm, "abcdefghijklé": api.ErrForm, "abcdefghijk\xff\xff": api.ErrForm,
		// Letters and digits are those of the document alone.
		"é": api.ErrForm, "aé": api.ErrForm, "Ω": api.ErrForm, "a٣": api.ErrForm, "a\xff": api.ErrForm, "\xe1": api.ErrForm,
		"a b": api.ErrForm, " a": api.ErrForm, "a ": api.ErrForm, "a\n": api.ErrForm, "\x00": api.ErrForm,
		// What a rune's lowest byte looks like does not count.
		"\u0161": api.ErrForm, "a\u0141": api.ErrForm, "a\u0430": api.ErrForm, "a\u015f": api.ErrForm,
		// The words of the language are words.
		"lookahead": api.OK, "token": api.OK, "separator": api.OK, "start": api.OK,
	} {
		if e := name.Word(s); e != want {
			t.Errorf("Word(%q) = %v, want %v", s, e, want)
		}
	}
	for _, s := range append(samples(), shortStrings()...) {
		if e, want := name.Word(s), wordError(s); e != want {
			t.Errorf("Word(%.40q) = %v, want %v", s, e, want)
		}
	}
}

// P3.1: the bytes that a word can have, and the places where it can have them.
func TestWordEachByte(t *testing.T) {
	for at := range 14 {
		for b := range 256 {
			// The places behind the twelfth are those of strings that are too long.
			s := []byte(strings.Repeat("k", max(at+1, api.MaxName)))
			s[at] = byte(b)
			if e, want := name.Word(string(s)), wordError(string(s)); e != want {
				t.Errorf("Word(%q) = %v, want %v", s, e, want)
			}
		}
	}
}

// P3.1, with the second row of the examples.
func TestLanguageAndCheck(t *testing.T) {
	for s, want := range map[string]api.Errno{
		"token": api.ErrName, "lookahead": api.ErrName, "separator": api.ErrName, "start": api.ErrName,
		"tokens": api.OK, "Start": api.OK, "Token": api.OK, "toke": api.OK, "starts": api.OK, "": api.ErrShort,
		"start-": api.ErrForm, "tokentokentoken": api.ErrLong,
	} {
		if e := name.Check(s); e != want {
			t.Errorf("Check(%q) = %v, want %v", s, e, want)
		}
		if is := name.Language(s); is != (want == api.ErrName) {
			t.Errorf("Language(%q) = %v", s, is)
		}
	}
	for _, s := range append(samples(), shortStrings()...) {
		if e, want := name.Check(s), checkError(s); e != want {
			t.Errorf("Check(%.40q) = %v, want %v", s, e, want)
		}
		if is, want := name.Language(s), slices.Contains(languageWords, s); is != want {
			t.Errorf("Language(%.40q) = %v", s, is)
		}
	}
}

// P3.1, with the third row of the examples.
func TestSmallAndCapital(t *testing.T) {
	for _, c := range []struct {
		s              string
		small, capital bool
	}{
		{"a", true, false}, {"A", false, true}, {"token", false, false}, {"1", false, false}, {"", false, false},
		{"z", true, false}, {"Z", false, true}, {"aB", true, false}, {"Ab", false, true}, {"Token", false, true},
		{"_a", false, false}, {"a-", false, false}, {"A-", false, false}, {"é", false, false}, {"É", false, false},
		{"abcdefghijkl", true, false}, {"ABCDEFGHIJKL", false, true},
		{"abcdefghijklm", false, false}, {"ABCDEFGHIJKLM", false, false},
	} {
		if small, capital := name.Small(c.s), name.Capital(c.s); small != c.small || capital != c.capital {
			t.Errorf("%q is small: %v, capital: %v", c.s, small, capital)
		}
	}
}

// P3.2, with the fourth row of the examples.
func TestCompare(t *testing.T) {
	for _, c := range []struct {
		a, b string
		want int
	}{{"a", "b", -1}, {"ab", "a", 1}, {"A", "a", -1}, {"a", "a", 0}, {"", "", 0}, {"", "a", -1}, {"a", "", 1}, {"Z", "a", -1}, {"a9", "a_", -1}, {"a10", "a9", -1}} {
		if got := name.Compare(c.a, c.b); got != c.want {
			t.Errorf("Compare(%q, %q) = %d, want %d", c.a, c.b, got, c.want)
		}
	}
	// Bytes count as numbers from 0 to 255, in strings that are no names, too.
	l := append(samples(), shortStrings()[:600]...)
	for _, a := range l {
		for _, b := range l {
			if got, want := name.Compare(a, b), bytes.Compare([]byte(a), []byte(b)); got != want {
				t.Fatalf("Compare(%.40q, %.40q) = %d, want %d", a, b, got, want)
			}
		}
	}
}

// P3.2, with the fifth row of the examples.
func TestSorted(t *testing.T) {
	for _, c := range []struct{ l, want []string }{
		{[]string{"b", "a", "ab", "a"}, []string{"a", "a", "ab", "b"}},
		{nil, nil},
		{[]string{""}, []string{""}},
		{[]string{"a", "", "a", ""}, []string{"", "", "a", "a"}},
		{[]string{"b", "B", "a", "A"}, []string{"A", "B", "a", "b"}},
		{[]string{"\xff", "é", "-", "token"}, []string{"-", "token", "é", "\xff"}},
	} {
		if got := sorted(t, c.l); !slices.Equal(got, c.want) {
			t.Errorf("Sorted(%q) = %q, want %q", c.l, got, c.want)
		}
	}
}

// P3.2, with the fifth row of the examples.
func TestFind(t *testing.T) {
	for _, c := range []struct {
		l []string
		s string
		n int
		e api.Errno
	}{
		{[]string{"b", "a"}, "a", 1, api.OK},
		{[]string{"b", "a"}, "b", 0, api.OK},
		{[]string{"b", "a"}, "c", 0, api.ErrMissing},
		{[]string{"b", "a", "b", "a"}, "a", 1, api.OK},
		{[]string{"ab"}, "a", 0, api.ErrMissing},
		{[]string{"a"}, "ab", 0, api.ErrMissing},
		{[]string{"a"}, "A", 0, api.ErrMissing},
		{nil, "a", 0, api.ErrMissing},
		{nil, "", 0, api.ErrMissing},
		{[]string{"a", ""}, "", 1, api.OK},
		{[]string{"a-b", "\xff"}, "\xff", 1, api.OK},
		{[]string{"\xff"}, "\ufffd", 0, api.ErrMissing},
	} {
		if n, e := name.Find(c.l, c.s); n != c.n || e != c.e {
			t.Errorf("Find(%q, %q) = %d, %v; want %d, %v", c.l, c.s, n, e, c.n, c.e)
		}
	}
	for _, l := range lists() {
		for _, s := range append(slices.Clone(l), "", "a", "t0", "none", "\xff") {
			n, e := name.Find(l, s)
			if want := slices.Index(l, s); want < 0 && (n != 0 || e != api.ErrMissing) || want >= 0 && (n != want || e != api.OK) {
				t.Errorf("Find(%q, %q) = %d, %v", l, s, n, e)
			}
		}
	}
}

// P3.2, with the fifth row of the examples.
func TestTwice(t *testing.T) {
	for _, c := range []struct {
		l  []string
		n  int
		is bool
	}{
		{[]string{"a", "b", "a", "b"}, 2, true},
		{[]string{"a", "b"}, 0, false},
		// It is the later place that is told, and the first one of these.
		{[]string{"a", "b", "b", "a"}, 2, true},
		{[]string{"a", "b", "c", "c", "c"}, 3, true},
		{[]string{"a", "a"}, 1, true},
		{[]string{"", ""}, 1, true},
		{[]string{"a", "A", "ab", ""}, 0, false},
		{[]string{"\xff", "\xfe", "\ufffd"}, 0, false},
		{[]string{"a"}, 0, false},
		{nil, 0, false},
	} {
		if n, is, e := name.Twice(c.l); n != c.n || is != c.is || e != api.OK {
			t.Errorf("Twice(%q) = %d, %v, %v; want %d, %v", c.l, n, is, e, c.n, c.is)
		}
	}
}

// P3.2: lists have at most 100 strings.
func TestLongLists(t *testing.T) {
	for _, l := range tooLong() {
		if s, e := name.Sorted(l); len(s) != 0 || e != api.ErrFull {
			t.Errorf("Sorted of %d strings: %q, %v; want ErrFull", len(l), s, e)
		}
		// Whether the string is in the list, and where, does not count.
		for _, s := range []string{l[0], l[most], "none"} {
			if n, e := name.Find(l, s); n != 0 || e != api.ErrFull {
				t.Errorf("Find of %q in %d strings: %d, %v; want ErrFull", s, len(l), n, e)
			}
		}
		if n, is, e := name.Twice(l); n != 0 || is || e != api.ErrFull {
			t.Errorf("Twice of %d strings: %d, %v, %v; want ErrFull", len(l), n, is, e)
		}
		for _, capital := range []bool{false, true} {
			if s, e := name.Fresh(l, capital); s != "" || e != api.ErrFull {
				t.Errorf("Fresh of %d strings: %q, %v; want ErrFull", len(l), s, e)
			}
		}
		allowed := l[:most]
		sorted(t, allowed)
		fresh(t, allowed, true)
		if _, e := name.Find(allowed, l[0]); e != api.OK {
			t.Errorf("Find in %d strings: %v", len(allowed), e)
		}
		if _, _, e := name.Twice(allowed); e != api.OK {
			t.Errorf("Twice of %d strings: %v", len(allowed), e)
		}
	}
}

// P3.3, with the sixth row of the examples.
func TestMake(t *testing.T) {
	for _, c := range []struct {
		n       int
		capital bool
		s       string
		e       api.Errno
	}{
		{0, false, "t0", api.OK}, {0, true, "N0", api.OK}, {12, true, "N12", api.OK}, {12, false, "t12", api.OK},
		{greatest, false, "t9999", api.OK}, {greatest, true, "N9999", api.OK},
		{10000, false, "", api.ErrRange}, {10000, true, "", api.ErrRange}, {-1, true, "", api.ErrRange}, {-1, false, "", api.ErrRange},
		{math.MaxInt, true, "", api.ErrRange}, {math.MinInt, false, "", api.ErrRange}, {1 << 32, false, "", api.ErrRange}, {1<<32 + 1, true, "", api.ErrRange},
	} {
		if s, e := name.Make(c.n, c.capital); s != c.s || e != c.e {
			t.Errorf("Make(%d, %v) = %q, %v; want %q, %v", c.n, c.capital, s, e, c.s, c.e)
		}
	}
}

// P3.3, with the seventh row of the examples.
func TestFresh(t *testing.T) {
	for _, c := range []struct {
		l       []string
		capital bool
		want    string
	}{
		{[]string{"t0", "t1"}, false, "t2"},
		{[]string{"t1"}, false, "t0"},
		{[]string{"t0"}, true, "N0"},
		{[]string{"N0"}, false, "t0"},
		{nil, false, "t0"},
		{nil, true, "N0"},
		// It is the first number, not one behind the greatest, and in whatever order they stand.
		{[]string{"t3", "t1", "t0", "t9999"}, false, "t2"},
		{[]string{"N2", "N1", "N0", "t3"}, true, "N3"},
		{[]string{"t0", "t0", "t0"}, false, "t1"},
		// The names count, not the numbers in them.
		{[]string{"t00", "T0", "t", "0", "t0_"}, false, "t0"},
		{[]string{"N00", "n0", "N"}, true, "N0"},
		{numbers("t", 10), false, "t10"},
		{numbers("t", most), false, "t100"},
		{numbers("N", most), true, "N100"},
		{numbers("N", most), false, "t0"},
	} {
		if s, e := name.Fresh(c.l, c.capital); s != c.want || e != api.OK {
			t.Errorf("Fresh(%q, %v) = %q, %v; want %q", c.l, c.capital, s, e, c.want)
		}
	}
}

// P3.4
func TestNamesAreSmallOrCapital(t *testing.T) {
	for _, s := range append(samples(), shortStrings()...) {
		small, capital := name.Small(s), name.Capital(s)
		if isName := name.Check(s) == api.OK; isName != (small != capital) || !isName && (small || capital) {
			t.Errorf("%.40q is a name: %v, small: %v, capital: %v", s, isName, small, capital)
		}
		if small && strings.ToLower(s[:1]) != s[:1] || capital && strings.ToUpper(s[:1]) != s[:1] {
			t.Errorf("%.40q is small: %v, capital: %v", s, small, capital)
		}
	}
}

// P3.5: of any two strings just one comes first, or they are equal; and what comes before a second one comes before those behind it.
func TestCompareIsAnOrder(t *testing.T) {
	l := append(samples()[:60], "", "a", "A", "aa", "ab", "b")
	for _, a := range l {
		for _, b := range l {
			ab := name.Compare(a, b)
			if ab != -name.Compare(b, a) || (ab == 0) != (a == b) || ab < -1 || ab > 1 {
				t.Errorf("%q and %q: %d and %d", a, b, ab, name.Compare(b, a))
			}
			for _, c := range l {
				if ab <= 0 && name.Compare(b, c) <= 0 && name.Compare(a, c) > 0 {
					t.Errorf("%q, %q and %q are not in order", a, b, c)
				}
			}
		}
	}
}

// P3.5
func TestSortedHasTheSameStrings(t *testing.T) {
	for _, l := range lists() {
		s := sorted(t, l)
		count := map[string]int{}
		for _, x := range l {
			count[x]++
		}
		for i, x := range s {
			count[x]--
			if i > 0 && name.Compare(s[i-1], x) > 0 {
				t.Errorf("Sorted(%q): %q stands before %q", l, s[i-1], x)
			}
		}
		for x, n := range count {
			if n != 0 {
				t.Errorf("Sorted(%q) has %q %d times less", l, x, n)
			}
		}
		if again := sorted(t, s); !slices.Equal(again, s) {
			t.Errorf("%q sorted again is %q", s, again)
		}
		slices.Reverse(l)
		if turned := sorted(t, l); !slices.Equal(turned, s) {
			t.Errorf("the other way round %q is sorted to %q", s, turned)
		}
	}
}

// P3.6
func TestMadeNames(t *testing.T) {
	seen := map[string]bool{}
	for n := range greatest + 1 {
		for _, capital := range []bool{false, true} {
			s, e := name.Make(n, capital)
			if e != api.OK || name.Check(s) != api.OK || name.Capital(s) != capital || name.Small(s) == capital || seen[s] {
				t.Errorf("Make(%d, %v) = %q, %v; seen: %v", n, capital, s, e, seen[s])
			}
			seen[s] = true
		}
	}
	if len(seen) != 2*(greatest+1) {
		t.Errorf("there are %d names", len(seen))
	}
}

// P3.3 and P3.7
func TestFreshIsMissing(t *testing.T) {
	for _, l := range lists() {
		for _, capital := range []bool{false, true} {
			s := fresh(t, l, capital)
			if n, e := name.Find(l, s); n != 0 || e != api.ErrMissing {
				t.Errorf("%q is in %q at %d, %v", s, l, n, e)
			}
			number, err := strconv.Atoi(s[1:])
			if made, e := name.Make(number, capital); err != nil || made != s || e != api.OK {
				t.Errorf("Fresh(%q, %v) = %q", l, capital, s)
			}
			for n := range number {
				if earlier, _ := name.Make(n, capital); !slices.Contains(l, earlier) {
					t.Errorf("Fresh(%q, %v) = %q, and not %q", l, capital, s, earlier)
				}
			}
			if longer := append(slices.Clone(l), s); len(longer) <= most {
				if again := fresh(t, longer, capital); again == s || slices.Contains(longer, again) {
					t.Errorf("Fresh(%q, %v) = %q", longer, capital, again)
				}
			}
		}
	}
}

// P3.8
func TestTwiceSeesAllEqualStrings(t *testing.T) {
	for _, l := range lists() {
		at, seen := -1, map[string]bool{}
		for i, s := range l {
			if seen[s] && at < 0 {
				at = i
			}
			seen[s] = true
		}
		n, is, e := name.Twice(l)
		if e != api.OK || is != (at >= 0) || is && n != at || !is && n != 0 {
			t.Errorf("Twice(%q) = %d, %v, %v; want %d", l, n, is, e, at)
		}
		if is == (len(seen) == len(l)) {
			t.Errorf("Twice(%q): %v, with %d different strings", l, is, len(seen))
		}
	}
}

// P3.8: each two places of the longest list are held against each other.
func TestTwiceAtAllPlaces(t *testing.T) {
	for late := range most {
		for early := range late {
			l := numbers("t", most)
			l[late] = l[early]
			if n, is, e := name.Twice(l); n != late || !is || e != api.OK {
				t.Fatalf("equal at %d and %d: %d, %v, %v", early, late, n, is, e)
			}
		}
	}
}

// R4: arguments are not changed.
func TestArgumentsStay(t *testing.T) {
	for _, l := range append(lists(), tooLong()...) {
		was := slices.Clone(l)
		name.Sorted(l)
		name.Find(l, "a")
		name.Twice(l)
		name.Fresh(l, true)
		name.Fresh(l, false)
		if !slices.Equal(l, was) {
			t.Errorf("%q became %q", was, l)
		}
	}
}

// R4: the room behind a list is not written to, either, and what Sorted returns is no part of the list.
func TestNothingIsShared(t *testing.T) {
	room := []string{"b", "a", "left", "alone"}
	l := room[:2]
	a, b := sorted(t, l), sorted(t, l)
	fresh(t, l, false)
	a[0], a[1] = "x", "y"
	a = append(a, "z")
	if !slices.Equal(room, []string{"b", "a", "left", "alone"}) || !slices.Equal(b, []string{"a", "b"}) || len(a) != 3 {
		t.Errorf("the list is %q, the other result %q", room, b)
	}
	inOrder := []string{"a", "b"}
	c := sorted(t, inOrder)
	c[0] = "x"
	if inOrder[0] != "a" {
		t.Error("a list that is in order is returned itself")
	}
}

// R4: lists that are nil and empty ones are equal.
func TestNilAndEmpty(t *testing.T) {
	for _, l := range [][]string{nil, {}} {
		n, e := name.Find(l, "")
		at, is, f := name.Twice(l)
		if len(sorted(t, l)) != 0 || n != 0 || e != api.ErrMissing || at != 0 || is || f != api.OK || fresh(t, l, true) != "N0" {
			t.Errorf("%#v is not taken as empty", l)
		}
	}
}

// R3: with an error there is no other result.
func TestErrorsComeAlone(t *testing.T) {
	for _, n := range []int{math.MinInt, -10000, -1, 10000, 10001, 99999, math.MaxInt32, math.MaxInt} {
		for _, capital := range []bool{false, true} {
			if s, e := name.Make(n, capital); s != "" || e != api.ErrRange {
				t.Errorf("Make(%d, %v) = %q, %v; want ErrRange", n, capital, s, e)
			}
		}
	}
	for _, l := range lists() {
		if n, e := name.Find(l, "a string that is in no list"); n != 0 || e != api.ErrMissing {
			t.Errorf("Find in %q: %d, %v; want ErrMissing", l, n, e)
		}
	}
}

// P1: no string makes a function panic, nor a list of whatever length.
func TestAllStringsAreTaken(t *testing.T) {
	l := append(samples(), strings.Repeat("é", 1<<16), strings.Repeat("\xff", 1<<16), strings.Repeat("a", 1<<20), strings.Repeat("A", 1<<20)+"-")
	for _, s := range l {
		if e, want := name.Word(s), wordError(s); e != want {
			t.Errorf("Word of %d bytes: %v, want %v", len(s), e, want)
		}
		if e, want := name.Check(s), checkError(s); e != want {
			t.Errorf("Check of %d bytes: %v, want %v", len(s), e, want)
		}
		if name.Small(s) && name.Capital(s) || name.Compare(s, s) != 0 || name.Compare(s, s+"\x00") != -1 {
			t.Errorf("%.40q, with %d bytes", s, len(s))
		}
		name.Language(s)
		if n, e := name.Find([]string{"", s}, s); e != api.OK || n != min(len(s), 1) {
			t.Errorf("Find of %d bytes: %d, %v", len(s), n, e)
		}
	}
	if _, e := name.Sorted(make([]string, 1<<20)); e != api.ErrFull {
		t.Errorf("Sorted of 2^20 strings: %v", e)
	}
}
