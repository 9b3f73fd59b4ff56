package look_test

import (
	"fmt"
	"math"
	"math/rand"
	"regexp"
	"slices"
	"sort"
	"strconv"
	"strings"
	"testing"

	"stenotype/api"
	"stenotype/look"
)

// strange are numbers that are no terminal, no length, and no number of terminals.
var strange = []int{math.MinInt, math.MinInt + 1, math.MinInt + 8, -256, -9, -1, 9, 16, 64, 256, 1 << 32, 1<<32 + 1, 1<<32 + 8, math.MaxInt - 8, math.MaxInt}

// wrong is a look that is none, and what Check says of it for 8 terminals.
type wrong struct {
	x   api.Look
	err api.Errno
}

// wrongs are looks that are none.
func wrongs() []wrong {
	l := []wrong{
		{api.Look{N: -1}, api.ErrForm},
		{api.Look{N: 5}, api.ErrForm},
		{api.Look{N: 5, S: [4]int{1, 2, 3, 4}}, api.ErrForm},
		{api.Look{N: 1, S: [4]int{0, 1}}, api.ErrForm},
		{api.Look{N: 0, S: [4]int{0, 0, 0, -1}}, api.ErrForm},
		{api.Look{N: 3, S: [4]int{1, 2, 3, 4}}, api.ErrForm},
		{api.Look{N: 1, S: [4]int{8, 8}}, api.ErrForm},
		{api.Look{N: 1, S: [4]int{8}}, api.ErrSymbol},
		{api.Look{N: 1, S: [4]int{-1}}, api.ErrSymbol},
		{api.Look{N: 4, S: [4]int{0, 0, 0, 8}}, api.ErrSymbol},
		{api.Look{N: 4, S: [4]int{7, 16, 7, 7}}, api.ErrSymbol},
	}
	for _, n := range strange {
		l = append(l, wrong{api.Look{N: n}, api.ErrForm}, wrong{api.Look{N: 2, S: [4]int{0, n}}, api.ErrSymbol}, wrong{api.Look{N: 2, S: [4]int{0, 0, n}}, api.ErrForm})
	}
	return l
}

// lists are all lists of at most k numbers below terms, in order: those of each length, and then all of them sorted.
func lists(terms, k int) [][]int {
	all, last := [][]int{nil}, [][]int{nil}
	for range k {
		var longer [][]int
		for _, l := range last {
			for symbol := range terms {
				longer = append(longer, append(slices.Clone(l), symbol))
			}
		}
		all, last = append(all, longer...), longer
	}
	sort.Slice(all, func(i, j int) bool { return before(all[i], all[j]) })
	return all
}

// before reports whether the list a comes before b.
func before(a, b []int) bool {
	for i := range b {
		if i == len(a) || a[i] < b[i] {
			return true
		}
		if a[i] > b[i] {
			return false
		}
	}
	return false
}

// plain returns the look of l, without the program.
func plain(l []int) api.Look {
	x := api.Look{N: len(l)}
	for i, symbol := range l {
		x.S[i] = symbol
	}
	return x
}

// upTo returns the first n numbers of l, or all if there are fewer.
func upTo(l []int, n int) []int { return slices.Clone(l[:min(n, len(l))]) }

// is demands that a call returned want and err.
func is[T comparable](t *testing.T, call string, got T, e api.Errno, want T, err api.Errno) {
	t.Helper()
	if got != want || e != err {
		t.Errorf("%s: %v, %v, not %v, %v", call, got, e, want, err)
	}
}

// isList demands that a call returned the list want, and err.
func isList[T comparable](t *testing.T, call string, got []T, e api.Errno, want []T, err api.Errno) {
	t.Helper()
	if !slices.Equal(got, want) || e != err {
		t.Errorf("%s: %v, %v, not %v, %v", call, got, e, want, err)
	}
}

// isOf demands that Of says this.
func isOf(t *testing.T, l []int, want api.Look, err api.Errno) {
	t.Helper()
	x, e := look.Of(l...)
	is(t, fmt.Sprint("Of", l), x, e, want, err)
}

// isJoin demands that Join says this.
func isJoin(t *testing.T, k int, x, y, want api.Look, err api.Errno) {
	t.Helper()
	z, e := look.Join(k, x, y)
	is(t, fmt.Sprint("Join ", k, x, y), z, e, want, err)
}

// isCut demands that Cut says this.
func isCut(t *testing.T, x api.Look, k int, want api.Look, err api.Errno) {
	t.Helper()
	z, e := look.Cut(x, k)
	is(t, fmt.Sprint("Cut ", x, k), z, e, want, err)
}

// isCompare demands that Compare says this.
func isCompare(t *testing.T, x, y api.Look, want int, err api.Errno) {
	t.Helper()
	n, e := look.Compare(x, y)
	is(t, fmt.Sprint("Compare ", x, y), n, e, want, err)
}

// isBegins demands that Begins says this.
func isBegins(t *testing.T, x, y api.Look, want bool, err api.Errno) {
	t.Helper()
	b, e := look.Begins(x, y)
	is(t, fmt.Sprint("Begins ", x, y), b, e, want, err)
}

// isText demands that Text says this.
func isText(t *testing.T, x api.Look, want string, err api.Errno) {
	t.Helper()
	s, e := look.Text(x)
	is(t, fmt.Sprint("Text ", x), s, e, want, err)
}

// isParse demands that Parse says this.
func isParse(t *testing.T, s string, want api.Look, err api.Errno) {
	t.Helper()
	x, e := look.Parse(s)
	is(t, fmt.Sprintf("Parse %.40q of %d bytes", s, len(s)), x, e, want, err)
}

// isNumber demands that Number says this.
func isNumber(t *testing.T, x api.Look, terms, want int, err api.Errno) {
	t.Helper()
	n, e := look.Number(x, terms)
	is(t, fmt.Sprint("Number ", x, terms), n, e, want, err)
}

// isNumbered demands that Numbered says this.
func isNumbered(t *testing.T, n, terms int, want api.Look, err api.Errno) {
	t.Helper()
	x, e := look.Numbered(n, terms)
	is(t, fmt.Sprint("Numbered ", n, " ", terms), x, e, want, err)
}

// isAll demands that All says this.
func isAll(t *testing.T, terms, k int, want []api.Look, err api.Errno) {
	t.Helper()
	l, e := look.All(terms, k)
	isList(t, fmt.Sprint("All ", terms, k), l, e, want, err)
}

// plains returns the looks of all of l.
func plains(l [][]int) []api.Look {
	var looks []api.Look
	for _, a := range l {
		looks = append(looks, plain(a))
	}
	return looks
}

// P13.1: the first row of the examples.
func TestOfOfTheExamples(t *testing.T) {
	isOf(t, []int{0, 7}, api.Look{N: 2, S: [4]int{0, 7}}, api.OK)
	isOf(t, nil, api.Look{}, api.OK)
	isOf(t, []int{8}, api.Look{}, api.ErrSymbol)
	isOf(t, []int{0, 0, 0, 0, 0}, api.Look{}, api.ErrFull)
	isOf(t, []int{8, 0, 0, 0, 0}, api.Look{}, api.ErrFull)
}

// P13.1: Of, for all lists of the terminals, and for those with one number that is none.
func TestOf(t *testing.T) {
	for _, l := range lists(8, 4) {
		isOf(t, l, plain(l), api.OK)
	}
	for _, n := range append([]int{8}, strange...) {
		for length := 1; length <= 4; length++ {
			for i := range length {
				l := make([]int, length)
				l[i] = n
				isOf(t, l, api.Look{}, api.ErrSymbol)
			}
		}
	}
	for _, length := range []int{5, 6, 8, 100, 1 << 16} {
		isOf(t, make([]int, length), api.Look{}, api.ErrFull)
		isOf(t, slices.Repeat([]int{-1}, length), api.Look{}, api.ErrFull)
	}
}

// wantCheck is what Check has to say, condition by condition.
func wantCheck(x api.Look, terms int) api.Errno {
	if !slices.Contains([]int{1, 2, 3, 4, 5, 6, 7, 8}, terms) {
		return api.ErrRange
	}
	if !slices.Contains([]int{0, 1, 2, 3, 4}, x.N) {
		return api.ErrForm
	}
	isBad := false
	for i, symbol := range x.S {
		if i >= x.N && symbol != 0 {
			return api.ErrForm
		}
		isBad = isBad || i < x.N && (symbol < 0 || symbol > terms-1)
	}
	if isBad {
		return api.ErrSymbol
	}
	return api.OK
}

// P13.1: Check, with the last row of the examples.
func TestCheck(t *testing.T) {
	is(t, "N 1 with S 0 1", 0, look.Check(api.Look{N: 1, S: [4]int{0, 1}}, 8), 0, api.ErrForm)
	is(t, "0 1 for 1", 0, look.Check(api.Look{N: 2, S: [4]int{0, 1}}, 1), 0, api.ErrSymbol)
	places := []int{-1, 0, 1, 7, 8}
	count := map[api.Errno]int{}
	for n := -2; n <= 6; n++ {
		for i := range 625 {
			x := api.Look{N: n, S: [4]int{places[i%5], places[i/5%5], places[i/25%5], places[i/125]}}
			for terms := -1; terms <= 10; terms++ {
				err := wantCheck(x, terms)
				count[err]++
				is(t, fmt.Sprint("Check ", x, terms), 0, look.Check(x, terms), 0, err)
			}
		}
	}
	if len(count) != 4 || count[api.OK] < 100 {
		t.Errorf("the looks are too much alike: %v", count)
	}
}

// P13.1: Check of all looks, for each number of terminals.
func TestCheckOfAllLooks(t *testing.T) {
	for _, l := range lists(8, 4) {
		for terms := 1; terms <= 8; terms++ {
			err := api.OK
			if len(l) > 0 && slices.Max(l) >= terms {
				err = api.ErrSymbol
			}
			is(t, fmt.Sprint("Check ", l, terms), 0, look.Check(plain(l), terms), 0, err)
		}
	}
}

// P13.1, R1: the number of terminals is asked first, then the form, then the terminals.
func TestOrderOfErrorsOfCheck(t *testing.T) {
	for _, w := range wrongs() {
		is(t, fmt.Sprint("Check ", w.x), 0, look.Check(w.x, 8), 0, w.err)
		for _, terms := range append([]int{0}, strange...) {
			is(t, fmt.Sprint("Check ", w.x, terms), 0, look.Check(w.x, terms), 0, api.ErrRange)
		}
	}
}

// P13.1: List.
func TestList(t *testing.T) {
	for _, l := range lists(8, 4) {
		got, e := look.List(plain(l))
		isList(t, fmt.Sprint("List ", l), got, e, l, api.OK)
	}
}

// P13.1, R1, R3: all functions return the error of Check for 8 terminals for each look, in order, first and alone.
func TestErrorsOfLooks(t *testing.T) {
	good := plain([]int{1, 2})
	for _, w := range wrongs() {
		l, e := look.List(w.x)
		isList(t, fmt.Sprint("List ", w.x), l, e, nil, w.err)
		isText(t, w.x, "", w.err)
		for _, k := range append([]int{0, 1, 4, 5, 8}, strange...) {
			isCut(t, w.x, k, api.Look{}, w.err)
			isJoin(t, k, w.x, good, api.Look{}, w.err)
			isJoin(t, k, good, w.x, api.Look{}, w.err)
		}
		isCompare(t, w.x, good, 0, w.err)
		isCompare(t, good, w.x, 0, w.err)
		isBegins(t, w.x, good, false, w.err)
		isBegins(t, good, w.x, false, w.err)
		for _, v := range wrongs() {
			isJoin(t, 2, w.x, v.x, api.Look{}, w.err)
			isCompare(t, w.x, v.x, 0, w.err)
			isBegins(t, w.x, v.x, false, w.err)
		}
	}
}

// P13.1: Number returns the error of Check for its terminals.
func TestErrorsOfNumber(t *testing.T) {
	for _, w := range wrongs() {
		for terms := 1; terms <= 8; terms++ {
			isNumber(t, w.x, terms, 0, w.err)
		}
		for _, terms := range append([]int{0}, strange...) {
			isNumber(t, w.x, terms, 0, api.ErrRange)
			isNumber(t, api.Look{}, terms, 0, api.ErrRange)
		}
	}
	for terms := 1; terms < 8; terms++ {
		isNumber(t, plain([]int{0, terms}), terms, 0, api.ErrSymbol)
		isNumber(t, plain([]int{7, 0, 0, 0}), terms, 0, api.ErrSymbol)
	}
}

// P13.2: the second and the third row of the examples.
func TestJoinAndOrderOfTheExamples(t *testing.T) {
	isJoin(t, 2, plain([]int{0, 1}), plain([]int{2}), plain([]int{0, 1}), api.OK)
	isJoin(t, 3, plain([]int{0, 1}), plain([]int{2}), plain([]int{0, 1, 2}), api.OK)
	isJoin(t, 4, plain([]int{0}), api.Look{}, plain([]int{0}), api.OK)
	isJoin(t, 0, plain([]int{0}), plain([]int{1}), api.Look{}, api.ErrRange)
	isCompare(t, plain([]int{0}), plain([]int{0, 0}), -1, api.OK)
	isCompare(t, plain([]int{1}), plain([]int{0, 7}), 1, api.OK)
	isBegins(t, plain([]int{0}), plain([]int{0, 1}), true, api.OK)
	isBegins(t, plain([]int{0, 1}), plain([]int{0}), false, api.OK)
	isCut(t, plain([]int{0, 1, 2}), 2, plain([]int{0, 1}), api.OK)
}

// isPair demands of all functions with two looks what the lists of their terminals say.
func isPair(t *testing.T, a, b []int) {
	t.Helper()
	x, y := plain(a), plain(b)
	for k := 1; k <= 4; k++ {
		isJoin(t, k, x, y, plain(upTo(append(slices.Clone(a), b...), k)), api.OK)
	}
	order := 0
	if before(a, b) {
		order = -1
	} else if before(b, a) {
		order = 1
	}
	isCompare(t, x, y, order, api.OK)
	isBegins(t, x, y, slices.Equal(a, b[:min(len(a), len(b))]), api.OK)
}

// P13.2: Join, Compare and Begins, for all pairs of looks of three terminals, and for some of eight.
func TestPairs(t *testing.T) {
	few := lists(3, 4)
	for _, a := range few {
		for _, b := range few {
			isPair(t, a, b)
		}
	}
	r := rand.New(rand.NewSource(132))
	many := lists(8, 4)
	for _, a := range many {
		isPair(t, a, many[r.Intn(len(many))])
		// Another terminal in one place, and other lengths, so that the two have a beginning in common.
		b := slices.Clone(a)
		if len(b) > 0 {
			b[r.Intn(len(b))] = r.Intn(8)
		}
		isPair(t, a, b)
		isPair(t, a, upTo(b, r.Intn(5)))
		isPair(t, upTo(b, r.Intn(5)), a)
	}
}

// P13.2: Join with a number out of range.
func TestJoinOutOfRange(t *testing.T) {
	for _, k := range append([]int{0, 5, 8}, strange...) {
		for _, l := range lists(2, 4) {
			isJoin(t, k, plain(l), plain([]int{1}), api.Look{}, api.ErrRange)
		}
	}
}

// P13.2: Cut, of all looks.
func TestCut(t *testing.T) {
	for _, l := range lists(8, 4) {
		for k := range 5 {
			isCut(t, plain(l), k, plain(upTo(l, k)), api.OK)
		}
		isCut(t, plain(l), 5, api.Look{}, api.ErrRange)
	}
	for _, k := range strange {
		isCut(t, plain([]int{1, 2}), k, api.Look{}, api.ErrRange)
		isCut(t, api.Look{}, k, api.Look{}, api.ErrRange)
	}
}

// P13.3: the fourth row of the examples.
func TestTextsOfTheExamples(t *testing.T) {
	isText(t, plain([]int{0, 7}), "0 7", api.OK)
	isText(t, api.Look{}, "-", api.OK)
	isParse(t, "0 7", plain([]int{0, 7}), api.OK)
	isParse(t, "-", api.Look{}, api.OK)
	isParse(t, "0  7", api.Look{}, api.ErrForm)
	isParse(t, "8", api.Look{}, api.ErrSymbol)
	isParse(t, "12", api.Look{}, api.ErrForm)
	isParse(t, "", api.Look{}, api.ErrForm)
}

// P13.3: Text, of all looks.
func TestText(t *testing.T) {
	for _, l := range lists(8, 4) {
		s := strings.Trim(fmt.Sprint(l), "[]")
		if s == "" {
			s = "-"
		}
		isText(t, plain(l), s, api.OK)
	}
}

// textForm are the texts of looks with any number of digits.
var textForm = regexp.MustCompile(`\A(?:-|[0-9](?: [0-9])*)\z`)

// wantParse is what Parse has to say, by an expression and by the numbers that it finds.
func wantParse(s string) (api.Look, api.Errno) {
	if !textForm.MatchString(s) {
		return api.Look{}, api.ErrForm
	}
	var l []int
	for _, digit := range strings.Fields(strings.Trim(s, "-")) {
		n, _ := strconv.Atoi(digit)
		l = append(l, n)
	}
	if len(l) > 4 {
		return api.Look{}, api.ErrFull
	}
	if len(l) > 0 && slices.Max(l) > 7 {
		return api.Look{}, api.ErrSymbol
	}
	return plain(l), api.OK
}

// strs are all strings of at most most bytes of the alphabet.
func strs(alphabet string, most int) []string {
	all, last := []string{""}, []string{""}
	for range most {
		var longer []string
		for _, s := range last {
			for i := range len(alphabet) {
				longer = append(longer, s+alphabet[i:i+1])
			}
		}
		all, last = append(all, longer...), longer
	}
	return all
}

// P13.3: Parse, of all strings of at most two bytes, and of all strings of at most five bytes that texts have, or nearly.
func TestParse(t *testing.T) {
	var bytes []byte
	for b := range 256 {
		bytes = append(bytes, byte(b))
	}
	count := map[api.Errno]int{}
	for _, s := range slices.Concat(strs(string(bytes), 2), strs("0789 -:/\t", 5), strs("08 ", 9)) {
		x, err := wantParse(s)
		count[err]++
		isParse(t, s, x, err)
	}
	if len(count) != 4 || count[api.OK] < 10 || count[api.ErrFull] < 10 || count[api.ErrSymbol] < 10 {
		t.Errorf("the strings are too much alike: %v", count)
	}
}

// P13.3: Parse, of texts of all looks in which one byte is another one, or is missing, or stands there twice.
func TestParseOfChangedTexts(t *testing.T) {
	for _, l := range lists(8, 4) {
		s := strings.Trim(fmt.Sprint(l), "[]")
		for i := range s {
			for _, other := range []string{"", "0", "8", " ", "-", "x", "\x00", "٣", s[i:i+1] + s[i:i+1]} {
				u := s[:i] + other + s[i+1:]
				x, err := wantParse(u)
				isParse(t, u, x, err)
			}
		}
	}
}

// P13.3, R1: the form of the whole text is asked first, then how many digits there are, then which ones.
func TestOrderOfErrorsOfParse(t *testing.T) {
	isParse(t, "0 0 0 0", plain(make([]int, 4)), api.OK)
	for s, err := range map[string]api.Errno{
		"0 0 0 0 0":                       api.ErrFull,
		"9 9 9 9 9":                       api.ErrFull,
		"9 9 9 9":                         api.ErrSymbol,
		"8 0 0 x":                         api.ErrForm,
		"8 0 0 0 0 0 0 0 0 0 x":           api.ErrForm,
		"0 0 0 0 0 0 0 ":                  api.ErrForm,
		strings.Repeat("7 ", 10000) + "7": api.ErrFull,
		strings.Repeat("7 ", 10000):       api.ErrForm,
		strings.Repeat("7", 10001):        api.ErrForm,
		strings.Repeat("-", 3):            api.ErrForm,
		"- -":                             api.ErrForm,
		"0 -":                             api.ErrForm,
		" -":                              api.ErrForm,
		"-\n":                             api.ErrForm,
		"-1":                              api.ErrForm,
		"+1":                              api.ErrForm,
		"01":                              api.ErrForm,
	} {
		isParse(t, s, api.Look{}, err)
	}
}

// P13.4: the fifth and the sixth row of the examples.
func TestNumbersOfTheExamples(t *testing.T) {
	isAll(t, 2, 1, plains([][]int{nil, {0}, {1}}), api.OK)
	isAll(t, 1, 2, plains([][]int{nil, {0}, {0, 0}}), api.OK)
	isAll(t, 9, 1, nil, api.ErrRange)
	isNumber(t, api.Look{}, 2, 0, api.OK)
	isNumber(t, plain([]int{0}), 2, 1, api.OK)
	isNumber(t, plain([]int{1}), 2, 16, api.OK)
	isNumber(t, plain([]int{1, 1, 1, 1}), 2, 30, api.OK)
	isNumber(t, plain([]int{1}), 1, 0, api.ErrSymbol)
	isNumbered(t, 16, 2, plain([]int{1}), api.OK)
	isNumbered(t, 31, 2, api.Look{}, api.ErrRange)
}

// P13.4: All, Number and Numbered, for each number of terminals.
func TestNumbers(t *testing.T) {
	for terms := 1; terms <= 8; terms++ {
		for k := range 5 {
			isAll(t, terms, k, plains(lists(terms, k)), api.OK)
		}
		all := lists(terms, 4)
		for n, l := range all {
			isNumber(t, plain(l), terms, n, api.OK)
			isNumbered(t, n, terms, plain(l), api.OK)
		}
		for _, n := range []int{len(all), len(all) + 1, 2 * len(all), api.MaxLooks, 1 << 20, 1 << 40, math.MaxInt, -1, -2, -len(all), math.MinInt} {
			isNumbered(t, n, terms, api.Look{}, api.ErrRange)
		}
	}
}

// P13.4: All and Numbered with a number out of range.
func TestNumbersOutOfRange(t *testing.T) {
	for _, n := range append([]int{0}, strange...) {
		for k := -1; k <= 5; k++ {
			isAll(t, n, k, nil, api.ErrRange)
		}
		for i := -1; i <= 2; i++ {
			isNumbered(t, i, n, api.Look{}, api.ErrRange)
		}
		for _, m := range strange {
			isAll(t, n, m, nil, api.ErrRange)
			isNumbered(t, n, m, api.Look{}, api.ErrRange)
		}
	}
	for terms := 1; terms <= 8; terms++ {
		for _, k := range append([]int{5, 6, 7, 8}, strange...) {
			isAll(t, terms, k, nil, api.ErrRange)
		}
	}
}

// all returns what All says, which must be looks.
func all(t *testing.T, terms, k int) []api.Look {
	t.Helper()
	l, e := look.All(terms, k)
	if e != api.OK || len(l) == 0 {
		t.Fatalf("All(%d, %d): %d looks, %v", terms, k, len(l), e)
	}
	return l
}

// compare returns what Compare says of looks.
func compare(t *testing.T, x, y api.Look) int {
	t.Helper()
	n, e := look.Compare(x, y)
	if e != api.OK {
		t.Fatalf("Compare(%v, %v): %v", x, y, e)
	}
	return n
}

// join returns what Join says of looks.
func join(t *testing.T, k int, x, y api.Look) api.Look {
	t.Helper()
	z, e := look.Join(k, x, y)
	if e != api.OK {
		t.Fatalf("Join(%d, %v, %v): %v", k, x, y, e)
	}
	return z
}

// cut returns what Cut says of a look.
func cut(t *testing.T, x api.Look, k int) api.Look {
	t.Helper()
	z, e := look.Cut(x, k)
	if e != api.OK {
		t.Fatalf("Cut(%v, %d): %v", x, k, e)
	}
	return z
}

// P13.5: Compare is a total order, and the look without terminals is the least one.
func TestOrder(t *testing.T) {
	l := all(t, 2, 4)
	for _, x := range l {
		if n := compare(t, api.Look{}, x); n > 0 || (n == 0) != (x == api.Look{}) {
			t.Errorf("%v is not behind the look without terminals: %d", x, n)
		}
		for _, y := range l {
			n := compare(t, x, y)
			if n != -compare(t, y, x) || (n == 0) != (x == y) || n < -1 || n > 1 {
				t.Errorf("%v and %v: %d", x, y, n)
			}
			for _, z := range l {
				if n <= 0 && compare(t, y, z) <= 0 && compare(t, x, z) > 0 {
					t.Errorf("%v, %v and %v are in no order", x, y, z)
				}
			}
		}
	}
}

// P13.6: +k is associative, the look without terminals changes nothing but the length, and x cut to k is as good as x.
func TestJoining(t *testing.T) {
	l := all(t, 2, 4)
	for k := 1; k <= 4; k++ {
		for _, x := range l {
			short := cut(t, x, k)
			if join(t, k, x, api.Look{}) != short || join(t, k, api.Look{}, x) != short {
				t.Errorf("%d: %v is changed by the look without terminals", k, x)
			}
			for _, y := range l {
				xy := join(t, k, x, y)
				if join(t, k, short, y) != xy {
					t.Errorf("%d: %v and %v", k, x, y)
				}
				for _, z := range l {
					if join(t, k, xy, z) != join(t, k, x, join(t, k, y, z)) {
						t.Errorf("%d: %v, %v and %v", k, x, y, z)
					}
				}
			}
		}
	}
}

// P13.7, P2: a look is read from its text, and from no other string.
func TestTextsAreReadBack(t *testing.T) {
	texts := map[string]api.Look{}
	for _, x := range all(t, 8, 4) {
		s, e := look.Text(x)
		if y, twice := texts[s]; twice || e != api.OK {
			t.Errorf("%v has the text %q, %v, as %v", x, s, e, y)
		}
		texts[s] = x
		isParse(t, s, x, api.OK)
	}
	read := 0
	for _, s := range strs("01- ", 7) {
		x, e := look.Parse(s)
		if e != api.OK {
			continue
		}
		read++
		if y, is := texts[s]; !is || x != y {
			t.Errorf("%q is read as %v, not %v", s, x, y)
		}
	}
	if read != 31 {
		t.Errorf("%d strings were read", read)
	}
}

// P13.8: All has this many looks, and their numbers are their places.
func TestPlaces(t *testing.T) {
	for terms := 1; terms <= 8; terms++ {
		for k := range 5 {
			l := all(t, terms, k)
			many := k + 1
			if terms > 1 {
				many = (power(terms, k+1) - 1) / (terms - 1)
			}
			if len(l) != many {
				t.Errorf("All(%d, %d) has %d looks, not %d", terms, k, len(l), many)
			}
		}
		last := -1
		for i, x := range all(t, terms, 4) {
			n, e := look.Number(x, terms)
			is(t, fmt.Sprint("Number ", x, terms), n, e, last+1, api.OK)
			isNumbered(t, i, terms, x, api.OK)
			last = n
		}
	}
}

// power returns n to the power m.
func power(n, m int) int {
	p := 1
	for range m {
		p *= n
	}
	return p
}

// R4: what Of is given stays as it is, and so does the room behind it, and its look does not change with it.
func TestArgumentsStay(t *testing.T) {
	room := []int{1, 2, 3, 8, 9}
	for n := range 4 {
		x, _ := look.Of(room[:n]...)
		if !slices.Equal(room, []int{1, 2, 3, 8, 9}) || x != plain(room[:n]) {
			t.Fatalf("%v, %v", room, x)
		}
		l := slices.Clone(room[:n])
		y, _ := look.Of(l...)
		for i := range l {
			l[i] = 5
		}
		if y != x {
			t.Errorf("%v became %v", x, y)
		}
	}
}

// R4: no two results share memory, and a result stays as it is.
func TestNothingIsShared(t *testing.T) {
	x := plain([]int{1, 2})
	a, _ := look.List(x)
	b, _ := look.List(x)
	a = append(a, 7, 7)
	a[0] = 6
	c, _ := look.List(x)
	if !slices.Equal(b, []int{1, 2}) || !slices.Equal(c, b) || x != plain([]int{1, 2}) {
		t.Errorf("%v, %v, %v", b, c, x)
	}
	l, m := all(t, 2, 2), all(t, 2, 2)
	for i := range l {
		l[i].S[0] = 100 + i
	}
	if want := plains(lists(2, 2)); !slices.Equal(m, want) || !slices.Equal(all(t, 2, 2), want) {
		t.Errorf("%v", m)
	}
	for i, y := range l {
		if y.S[0] != 100+i {
			t.Errorf("looks are shared: %v", l)
		}
	}
}

// R4: a nil list and an empty one are equal.
func TestNilAndEmpty(t *testing.T) {
	isOf(t, nil, api.Look{}, api.OK)
	isOf(t, []int{}, api.Look{}, api.OK)
	if x, e := look.Of(); x != (api.Look{}) || e != api.OK {
		t.Errorf("Of(): %v, %v", x, e)
	}
}

// R6: the same arguments lead to the same results each time.
func TestAgain(t *testing.T) {
	first := all(t, 3, 4)
	for range 5 {
		isAll(t, 3, 4, first, api.OK)
		for n, x := range first {
			isNumber(t, x, 3, n, api.OK)
			isBegins(t, x, x, true, api.OK)
		}
	}
}

// P1, R5: no argument is too great or too strange.
func TestAllArgumentsAreTaken(t *testing.T) {
	r := rand.New(rand.NewSource(1))
	numbers := append([]int{0, 1, 2, 3, 4, 5, 6, 7, 8}, strange...)
	pick := func() int { return numbers[r.Intn(len(numbers))] }
	looks := func() api.Look {
		x := api.Look{N: r.Intn(6)}
		for i := range min(x.N, 4) {
			x.S[i] = r.Intn(8)
		}
		if r.Intn(3) == 0 {
			x.N = pick()
		}
		if r.Intn(3) == 0 {
			x.S[r.Intn(4)] = pick()
		}
		return x
	}
	for range 100000 {
		x, y, k := looks(), looks(), pick()
		first, second, number := wantCheck(x, 8), wantCheck(y, 8), wantCheck(x, k)
		both := first
		if first == api.OK {
			both = second
		}
		_, e := look.List(x)
		_, f := look.Text(x)
		_, g := look.Compare(x, y)
		_, h := look.Begins(x, y)
		_, i := look.Number(x, k)
		if e != first || f != first || g != both || h != both || i != number || look.Check(x, k) != number {
			t.Fatalf("%v, %v, %d: %v, %v, %v, %v, %v", x, y, k, e, f, g, h, i)
		}
		isRange(t, k, x, y, first, both)
	}
}

// isRange demands that Cut and Join say ErrRange behind the errors of the looks, and that no look comes with an error.
func isRange(t *testing.T, k int, x, y api.Look, first, both api.Errno) {
	t.Helper()
	z, e := look.Cut(x, k)
	if first == api.OK && (k < 0 || k > 4) {
		first = api.ErrRange
	}
	u, f := look.Join(k, x, y)
	if both == api.OK && (k < 1 || k > 4) {
		both = api.ErrRange
	}
	if e != first || f != both || e != api.OK && z != (api.Look{}) || f != api.OK && u != (api.Look{}) {
		t.Fatalf("%v, %v, %d: %v, %v, %v, %v", x, y, k, z, e, u, f)
	}
}
