package lookset_test

import (
	"fmt"
	"maps"
	"math"
	"math/rand"
	"slices"
	"strings"
	"testing"

	"stenotype/api"
	"stenotype/look"
	"stenotype/lookset"
)

// strange are numbers that are no number of terminals, no lookahead, and no terminal.
var strange = []int{math.MinInt, math.MinInt + 1, math.MinInt + 8, -256, -9, -1, 9, 16, 64, 256, 1 << 16, 1<<16 + 1, 1 << 32, 1<<32 + 1, 1<<32 + 8, math.MaxInt - 8, math.MaxInt}

// plain returns the look that is written as digits, or as - if it has no terminals, without the program.
func plain(word string) api.Look {
	var x api.Look
	for _, digit := range strings.Trim(word, "-") {
		x.S[x.N] = int(digit - '0')
		x.N++
	}
	return x
}

// set returns the looks of words that are written side by side, with blanks between them.
func set(words string) []api.Look {
	var l []api.Look
	for _, word := range strings.Fields(words) {
		l = append(l, plain(word))
	}
	return l
}

// digits writes a right look as its terminals, so that the order of strings is the order of looks.
func digits(x api.Look) string {
	var s strings.Builder
	for _, symbol := range x.S[:x.N] {
		s.WriteByte('0' + byte(symbol))
	}
	return s.String()
}

// show writes a list of looks, and no more of it than one wants to read.
func show(l []api.Look) string { return fmt.Sprintf("%d looks %v", len(l), l[:min(len(l), 20)]) }

// shown writes a call of a function with arguments.
func shown(name string, args []any) string {
	for _, arg := range args {
		switch l := arg.(type) {
		case []api.Look:
			arg = show(l)
		case [][]api.Look:
			arg = fmt.Sprintf("%d sets %v", len(l), l[:min(len(l), 5)])
		}
		name += fmt.Sprintf(" %v", arg)
	}
	return name
}

// sorted returns the looks of the keys of m, in order.
func sorted(m map[string]bool) []api.Look {
	var words []string
	for word := range m {
		words = append(words, word)
	}
	slices.Sort(words)
	var l []api.Look
	for _, word := range words {
		l = append(l, plain(word))
	}
	return l
}

// keys returns the words of right looks, as a map.
func keys(l []api.Look) map[string]bool {
	m := map[string]bool{}
	for _, x := range l {
		m[digits(x)] = true
	}
	return m
}

// upTo returns the first k bytes of s, or all if there are fewer.
func upTo(s string, k int) string { return s[:min(k, len(s))] }

// universe returns all looks of at most k terminals, in order.
func universe(terms, k int) []api.Look {
	all, last := map[string]bool{"": true}, []string{""}
	for range k {
		var longer []string
		for _, s := range last {
			for symbol := range terms {
				word := s + string(rune('0'+symbol))
				longer = append(longer, word)
				all[word] = true
			}
		}
		last = longer
	}
	return sorted(all)
}

// subset returns the looks of l whose bits are 1 in n.
func subset(l []api.Look, n int) []api.Look {
	var some []api.Look
	for i, x := range l {
		if n>>i&1 == 1 {
			some = append(some, x)
		}
	}
	return some
}

// subsets returns all sets of looks of l.
func subsets(l []api.Look) [][]api.Look {
	var all [][]api.Look
	for n := range 1 << len(l) {
		all = append(all, subset(l, n))
	}
	return all
}

// anyWord returns the word of a look of at most k terminals.
func anyWord(r *rand.Rand, terms, k int) string {
	var s strings.Builder
	for range r.Intn(k + 1) {
		s.WriteByte('0' + byte(r.Intn(terms)))
	}
	return s.String()
}

// anyList returns a list of at most most looks, in any order, some of them twice.
func anyList(r *rand.Rand, terms, most int) []api.Look {
	var l []api.Look
	k := r.Intn(5)
	for range r.Intn(most + 1) {
		l = append(l, plain(anyWord(r, terms, k)))
	}
	return l
}

// anySet returns a set of at most most looks.
func anySet(r *rand.Rand, terms, most int) []api.Look { return sorted(keys(anyList(r, terms, most))) }

// wantTerms is what Check has to say of a number of terminals.
func wantTerms(terms int) api.Errno {
	if !slices.Contains([]int{1, 2, 3, 4, 5, 6, 7, 8}, terms) {
		return api.ErrRange
	}
	return api.OK
}

// wantLook is what look.Check has to say of a look, for a right number of terminals.
func wantLook(terms int, x api.Look) api.Errno {
	if x.N < 0 || x.N > 4 {
		return api.ErrForm
	}
	for _, symbol := range x.S[x.N:] {
		if symbol != 0 {
			return api.ErrForm
		}
	}
	for _, symbol := range x.S[:x.N] {
		if symbol < 0 || symbol > terms-1 {
			return api.ErrSymbol
		}
	}
	return api.OK
}

// wantCheck is what Check has to say of lists, one after the other.
func wantCheck(terms int, sets ...[]api.Look) api.Errno {
	if e := wantTerms(terms); e != api.OK {
		return e
	}
	for _, l := range sets {
		if len(l) > 4681 {
			return api.ErrFull
		}
		for i, x := range l {
			if e := wantLook(terms, x); e != api.OK {
				return e
			}
			if i > 0 && digits(l[i-1]) >= digits(x) {
				return api.ErrOrder
			}
		}
	}
	return api.OK
}

// wantK is what has to be said when e is said of the sets and k is the lookahead.
func wantK(e api.Errno, k int) api.Errno {
	if e == api.OK && !slices.Contains([]int{1, 2, 3, 4}, k) {
		return api.ErrRange
	}
	return e
}

// wantOf is what Of has to say.
func wantOf(terms int, l []api.Look) ([]api.Look, api.Errno) {
	if e := wantTerms(terms); e != api.OK {
		return nil, e
	}
	if len(l) > 20000 {
		return nil, api.ErrFull
	}
	for _, x := range l {
		if e := wantLook(terms, x); e != api.OK {
			return nil, e
		}
	}
	return sorted(keys(l)), api.OK
}

// is demands that a call of a function with arguments returned want and err.
func is[T comparable](t *testing.T, got T, e api.Errno, want T, err api.Errno, name string, args ...any) {
	t.Helper()
	if got != want || e != err {
		t.Errorf("%s: %v, %v, not %v, %v", shown(name, args), got, e, want, err)
	}
}

// isSet demands that a call of a function with arguments returned the list want, and err.
func isSet(t *testing.T, got []api.Look, e api.Errno, want []api.Look, err api.Errno, name string, args ...any) {
	t.Helper()
	if !slices.Equal(got, want) || e != err {
		t.Errorf("%s: %s, %v, not %s, %v", shown(name, args), show(got), e, show(want), err)
	}
}

// isCheck demands that Check says this.
func isCheck(t *testing.T, terms int, l []api.Look, err api.Errno) {
	t.Helper()
	is(t, 0, lookset.Check(terms, l), 0, err, "Check", terms, l)
}

// isOf demands that Of says this.
func isOf(t *testing.T, terms int, l, want []api.Look, err api.Errno) {
	t.Helper()
	got, e := lookset.Of(terms, l)
	isSet(t, got, e, want, err, "Of", terms, l)
}

// isHas demands that Has says this.
func isHas(t *testing.T, terms int, l []api.Look, x api.Look, want bool, err api.Errno) {
	t.Helper()
	got, e := lookset.Has(terms, l, x)
	is(t, got, e, want, err, "Has", terms, l, x)
}

// isUnion demands that Union says this.
func isUnion(t *testing.T, terms int, l [][]api.Look, want []api.Look, err api.Errno) {
	t.Helper()
	got, e := lookset.Union(terms, l...)
	isSet(t, got, e, want, err, "Union", terms, l)
}

// isMeet demands that Meet says this.
func isMeet(t *testing.T, terms int, a, b, want []api.Look, err api.Errno) {
	t.Helper()
	got, e := lookset.Meet(terms, a, b)
	isSet(t, got, e, want, err, "Meet", terms, a, b)
}

// isLess demands that Less says this.
func isLess(t *testing.T, terms int, a, b, want []api.Look, err api.Errno) {
	t.Helper()
	got, e := lookset.Less(terms, a, b)
	isSet(t, got, e, want, err, "Less", terms, a, b)
}

// isSum demands that Sum says this.
func isSum(t *testing.T, terms, k int, a, b, want []api.Look, err api.Errno) {
	t.Helper()
	got, e := lookset.Sum(terms, k, a, b)
	isSet(t, got, e, want, err, "Sum", terms, k, a, b)
}

// isCut demands that Cut says this.
func isCut(t *testing.T, terms, k int, l, want []api.Look, err api.Errno) {
	t.Helper()
	got, e := lookset.Cut(terms, k, l)
	isSet(t, got, e, want, err, "Cut", terms, k, l)
}

// isLeast demands that Least says this.
func isLeast(t *testing.T, terms int, l []api.Look, want api.Look, err api.Errno) {
	t.Helper()
	got, e := lookset.Least(terms, l)
	is(t, got, e, want, err, "Least", terms, l)
}

// isPair demands of the functions with two sets what maps of words say.
func isPair(t *testing.T, terms int, a, b []api.Look) {
	t.Helper()
	err := wantCheck(terms, a, b)
	if err != api.OK {
		isUnion(t, terms, [][]api.Look{a, b}, nil, err)
		isMeet(t, terms, a, b, nil, err)
		isLess(t, terms, a, b, nil, err)
		return
	}
	inA, inB := keys(a), keys(b)
	either, both, rest := keys(a), map[string]bool{}, keys(a)
	for word := range inB {
		either[word] = true
		if inA[word] {
			both[word] = true
		}
		delete(rest, word)
	}
	isUnion(t, terms, [][]api.Look{a, b}, sorted(either), api.OK)
	isMeet(t, terms, a, b, sorted(both), api.OK)
	isLess(t, terms, a, b, sorted(rest), api.OK)
	is(t, lookset.Same(a, b), api.OK, maps.Equal(inA, inB), api.OK, "Same", a, b)
}

// isAdded demands of Sum what the joined words say.
func isAdded(t *testing.T, terms, k int, a, b []api.Look) {
	t.Helper()
	err := wantK(wantCheck(terms, a, b), k)
	sums := map[string]bool{}
	for i := 0; i < len(a) && err == api.OK; i++ {
		for _, y := range b {
			sums[upTo(digits(a[i])+digits(y), k)] = true
		}
	}
	isSum(t, terms, k, a, b, sorted(sums), err)
}

// isSingle demands of the functions with one set what the words of its looks say.
func isSingle(t *testing.T, terms, k int, l []api.Look, x api.Look) {
	t.Helper()
	err := wantCheck(terms, l)
	isCheck(t, terms, l, err)
	want, e := wantOf(terms, l)
	isOf(t, terms, l, want, e)
	if err != api.OK {
		isUnion(t, terms, [][]api.Look{l}, nil, err)
		isHas(t, terms, l, x, false, err)
		isCut(t, terms, k, l, nil, err)
		isLeast(t, terms, l, api.Look{}, err)
		return
	}
	isUnion(t, terms, [][]api.Look{l}, l, api.OK)
	if e := wantLook(terms, x); e != api.OK {
		isHas(t, terms, l, x, false, e)
	} else {
		isHas(t, terms, l, x, keys(l)[digits(x)], api.OK)
	}
	shorter := map[string]bool{}
	for word := range keys(l) {
		if wantK(api.OK, k) == api.OK {
			shorter[upTo(word, k)] = true
		}
	}
	isCut(t, terms, k, l, sorted(shorter), wantK(api.OK, k))
	if len(l) == 0 {
		isLeast(t, terms, l, api.Look{}, api.ErrEmpty)
	} else {
		isLeast(t, terms, l, l[0], api.OK)
	}
}

// P14.1, P14.2: the first row of the examples.
func TestOfOfTheExamples(t *testing.T) {
	isOf(t, 3, set("1 01 - 1"), set("- 01 1"), api.OK)
	isCheck(t, 3, set("- 01 1"), api.OK)
	isCheck(t, 3, set("1 0"), api.ErrOrder)
}

// P14.2: the second row of the examples.
func TestJoinsOfTheExamples(t *testing.T) {
	a, b := set("- 1"), set("0 1")
	isUnion(t, 3, [][]api.Look{a, b}, set("- 0 1"), api.OK)
	isMeet(t, 3, a, b, set("1"), api.OK)
	isLess(t, 3, a, b, set("-"), api.OK)
}

// P14.3: the third and the fourth row of the examples.
func TestSumsOfTheExamples(t *testing.T) {
	isSum(t, 3, 2, set("- 0"), set("1 12"), set("01 1 12"), api.OK)
	isSum(t, 3, 1, set("- 0"), set("1 12"), set("0 1"), api.OK)
	isSum(t, 3, 2, nil, set("0"), nil, api.OK)
	isCut(t, 3, 1, set("01 02 1"), set("0 1"), api.OK)
	isCut(t, 3, 2, set("01 02 1"), set("01 02 1"), api.OK)
}

// P14.1, P14.2: the last row of the examples.
func TestLeastAndErrorsOfTheExamples(t *testing.T) {
	isLeast(t, 3, set("01 1"), plain("01"), api.OK)
	isLeast(t, 3, nil, api.Look{}, api.ErrEmpty)
	isCheck(t, 9, set("0"), api.ErrRange)
	isSum(t, 3, 5, set("0"), set("1"), nil, api.ErrRange)
}

// P14.1: Check, for all lists of at most three looks of a few, in any order.
func TestCheckOfAllShortLists(t *testing.T) {
	some := append(set("- 0 00 01 1 10 11 2 3 7"), api.Look{N: 8, S: [4]int{1}}, api.Look{N: 5}, api.Look{N: -1}, api.Look{S: [4]int{0, 1}}, api.Look{N: 1, S: [4]int{8}}, api.Look{N: 1, S: [4]int{-1}})
	count := map[api.Errno]int{}
	for terms := -1; terms <= 10; terms++ {
		isSingle(t, terms, 2, nil, api.Look{})
		for _, x := range some {
			isSingle(t, terms, 1, []api.Look{x}, x)
			for _, y := range some {
				isSingle(t, terms, 2, []api.Look{x, y}, y)
				for _, z := range some {
					l := []api.Look{x, y, z}
					count[wantCheck(terms, l)]++
					isCheck(t, terms, l, wantCheck(terms, l))
				}
			}
		}
	}
	if len(count) != 5 || count[api.OK] < 100 || count[api.ErrOrder] < 100 || count[api.ErrSymbol] < 100 {
		t.Errorf("the lists are too much alike: %v", count)
	}
}

// P14.1: a set may have all strings; and what is missing, or stands at another place, or stands there twice.
func TestCheckOfGreatSets(t *testing.T) {
	for terms := 1; terms <= 8; terms++ {
		all := universe(terms, 4)
		isCheck(t, terms, all, api.OK)
		if terms > 1 {
			isCheck(t, terms-1, all, api.ErrSymbol)
		}
		for _, i := range []int{1, len(all) / 2, len(all) - 1} {
			isCheck(t, terms, slices.Delete(slices.Clone(all), i, i+1), api.OK)
			swapped := slices.Clone(all)
			swapped[i-1], swapped[i] = all[i], all[i-1]
			isCheck(t, terms, swapped, api.ErrOrder)
			twice := slices.Clone(all)
			twice[i] = all[i-1]
			isCheck(t, terms, twice, api.ErrOrder)
		}
	}
}

// tooLong are lists with more looks than a set may have; one of them has looks that are none.
func tooLong() [][]api.Look {
	all := universe(8, 4)
	l := [][]api.Look{append(slices.Clone(all), api.Look{}), slices.Concat(all, all), slices.Repeat([]api.Look{{N: 5}}, 4682)}
	// Sizes of which the last 16 bits are those of a small size.
	for _, n := range []int{65535, 65536, 65537, 65536 + 600, 65536 + 4681, 1 << 17, 1<<17 + 1} {
		l = append(l, make([]api.Look, n))
	}
	return l
}

// P14.1, R1: the number of terminals is asked first, then how many looks there are, then the looks, one by one.
func TestOrderOfErrorsOfCheck(t *testing.T) {
	for _, l := range tooLong() {
		for terms := 1; terms <= 8; terms++ {
			isCheck(t, terms, l, api.ErrFull)
		}
		for _, terms := range append([]int{0}, strange...) {
			isCheck(t, terms, l, api.ErrRange)
		}
		isUnion(t, 8, [][]api.Look{l}, nil, api.ErrFull)
		isUnion(t, 8, [][]api.Look{nil, l, set("1 0")}, nil, api.ErrFull)
		isPair(t, 8, l, set("1 0"))
		isPair(t, 8, set("1 0"), l)
		isHas(t, 8, l, api.Look{N: 9}, false, api.ErrFull)
		isLeast(t, 8, l, api.Look{}, api.ErrFull)
		isCut(t, 8, 0, l, nil, api.ErrFull)
		isSum(t, 8, 0, l, set("1 0"), nil, api.ErrFull)
	}
	isCheck(t, 3, slices.Repeat([]api.Look{{N: 5}}, 4681), api.ErrForm)
	isCheck(t, 3, set("1 0 3"), api.ErrOrder)
	isCheck(t, 3, set("3 1 0"), api.ErrSymbol)
	isCheck(t, 3, append(set("1 0"), api.Look{N: 5}), api.ErrOrder)
	isCheck(t, 3, append([]api.Look{{N: 5}}, set("1 0")...), api.ErrForm)
	isCheck(t, 3, []api.Look{plain("1"), {N: 1, S: [4]int{0, 1}}}, api.ErrForm)
}

// wrong is a list that is no set for three terminals, and what Check says of it.
type wrong struct {
	l   []api.Look
	err api.Errno
}

// wrongs are lists that are no sets.
func wrongs() []wrong {
	return []wrong{
		{set("1 0"), api.ErrOrder},
		{set("1 1"), api.ErrOrder},
		{set("- 3"), api.ErrSymbol},
		{[]api.Look{{N: 5}}, api.ErrForm},
		{make([]api.Look, 4682), api.ErrFull},
	}
}

// P14.1, R1, R3: all functions return the error of the first set that has one, first and alone, then that of k.
func TestErrorsOfSets(t *testing.T) {
	good := set("- 0 12")
	for _, w := range wrongs() {
		for _, k := range append([]int{0, 1, 4, 5}, strange...) {
			isCut(t, 3, k, w.l, nil, w.err)
			isSum(t, 3, k, w.l, good, nil, w.err)
			isSum(t, 3, k, good, w.l, nil, w.err)
			isSum(t, 3, k, nil, w.l, nil, w.err)
		}
		for _, v := range wrongs() {
			isPair(t, 3, w.l, v.l)
			isPair(t, 3, good, v.l)
			isPair(t, 3, v.l, good)
			isSum(t, 3, 9, w.l, v.l, nil, w.err)
			isUnion(t, 3, [][]api.Look{good, w.l, v.l}, nil, w.err)
			isUnion(t, 3, [][]api.Look{w.l, good, v.l, good}, nil, w.err)
		}
		isUnion(t, 3, [][]api.Look{good, good, good, w.l}, nil, w.err)
		isHas(t, 3, w.l, plain("1"), false, w.err)
		isHas(t, 3, w.l, api.Look{N: 9}, false, w.err)
		isLeast(t, 3, w.l, api.Look{}, w.err)
	}
}

// P14.1: the number of terminals is asked before all sets.
func TestErrorsOfTerminals(t *testing.T) {
	for _, terms := range append([]int{0}, strange...) {
		for _, l := range [][]api.Look{nil, set("0"), set("1 0"), {{N: 5}}, make([]api.Look, 20001)} {
			isCheck(t, terms, l, api.ErrRange)
			isOf(t, terms, l, nil, api.ErrRange)
			isHas(t, terms, l, api.Look{N: 9}, false, api.ErrRange)
			isUnion(t, terms, [][]api.Look{l}, nil, api.ErrRange)
			isPair(t, terms, l, nil)
			isLeast(t, terms, l, api.Look{}, api.ErrRange)
			isCut(t, terms, 1, l, nil, api.ErrRange)
			isSum(t, terms, 1, l, l, nil, api.ErrRange)
		}
		isUnion(t, terms, nil, nil, api.ErrRange)
	}
}

// P14.1: Sum and Cut with a lookahead out of range, also of empty sets.
func TestErrorsOfLookaheads(t *testing.T) {
	for _, k := range append([]int{0, 5, 6, 7, 8}, strange...) {
		for _, l := range [][]api.Look{nil, set("-"), set("0 1"), universe(2, 4)} {
			isCut(t, 2, k, l, nil, api.ErrRange)
			isSum(t, 2, k, l, set("0"), nil, api.ErrRange)
			isSum(t, 2, k, nil, l, nil, api.ErrRange)
		}
	}
}

// P14.2: Of, of strings in any order, some of them twice, and of as many as there may be.
func TestOf(t *testing.T) {
	r := rand.New(rand.NewSource(142))
	for range 3000 {
		terms := 1 + r.Intn(8)
		l := anyList(r, terms, 60)
		want, err := wantOf(terms, l)
		isOf(t, terms, l, want, err)
	}
	all := universe(8, 4)
	many := slices.Repeat(all, 5)[:20000]
	r.Shuffle(len(many), func(i, j int) { many[i], many[j] = many[j], many[i] })
	isOf(t, 8, many, all, api.OK)
	isOf(t, 8, append(slices.Clone(many), api.Look{}), nil, api.ErrFull)
	isOf(t, 7, many, nil, api.ErrSymbol)
	isOf(t, 1, make([]api.Look, 20000), set("-"), api.OK)
	slices.Reverse(all)
	isOf(t, 8, all, universe(8, 4), api.OK)
}

// P14.2, R1: Of asks for the number of terminals first, then how many strings there are, then the strings, one by one.
func TestOrderOfErrorsOfOf(t *testing.T) {
	for _, n := range []int{20001, 20002, 65535, 65536, 65537, 65536 + 20000, 1 << 17} {
		isOf(t, 3, make([]api.Look, n), nil, api.ErrFull)
		isOf(t, 3, slices.Repeat([]api.Look{{N: 5}}, n), nil, api.ErrFull)
		isOf(t, 0, make([]api.Look, n), nil, api.ErrRange)
	}
	isOf(t, 3, append(make([]api.Look, 19999), api.Look{N: 5}), nil, api.ErrForm)
	isOf(t, 3, append(set("1 0 3"), api.Look{N: 5}), nil, api.ErrSymbol)
	isOf(t, 3, append([]api.Look{{N: 5}}, set("1 0 3")...), nil, api.ErrForm)
	isOf(t, 3, nil, nil, api.OK)
	for terms := 1; terms < 8; terms++ {
		isOf(t, terms, []api.Look{{N: 1, S: [4]int{terms}}}, nil, api.ErrSymbol)
		isOf(t, terms, []api.Look{{N: 1, S: [4]int{terms - 1}}}, []api.Look{{N: 1, S: [4]int{terms - 1}}}, api.OK)
	}
}

// P14.2: Has, of each string, and of those that are none.
func TestHas(t *testing.T) {
	all := universe(2, 2)
	for _, l := range subsets(all) {
		for i, x := range all {
			isHas(t, 2, l, x, slices.Contains(l, all[i]), api.OK)
		}
		isHas(t, 2, l, plain("000"), false, api.OK)
		isHas(t, 2, l, plain("2"), false, api.ErrSymbol)
		isHas(t, 3, l, plain("2"), false, api.OK)
		isHas(t, 2, l, api.Look{N: 5}, false, api.ErrForm)
		isHas(t, 2, l, api.Look{N: 1, S: [4]int{0, 1}}, false, api.ErrForm)
	}
	great := universe(8, 4)
	for i := 0; i < len(great); i += 13 {
		isHas(t, 8, great, great[i], true, api.OK)
		isHas(t, 8, slices.Delete(slices.Clone(great), i, i+1), great[i], false, api.OK)
	}
}

// P14.2: Union, of any number of sets.
func TestUnionOfManySets(t *testing.T) {
	isUnion(t, 1, nil, nil, api.OK)
	isUnion(t, 8, [][]api.Look{}, nil, api.OK)
	isUnion(t, 8, [][]api.Look{nil}, nil, api.OK)
	isUnion(t, 8, [][]api.Look{nil, nil, nil}, nil, api.OK)
	isUnion(t, 3, [][]api.Look{set("- 1"), set("0 1"), set("22")}, set("- 0 1 22"), api.OK)
	r := rand.New(rand.NewSource(1422))
	for range 1000 {
		terms := 1 + r.Intn(8)
		var sets [][]api.Look
		all := map[string]bool{}
		for range r.Intn(7) {
			l := anySet(r, terms, 8)
			sets = append(sets, l)
			for word := range keys(l) {
				all[word] = true
			}
		}
		isUnion(t, terms, sets, sorted(all), api.OK)
	}
	var singles [][]api.Look
	great := universe(8, 3)
	for _, x := range great {
		singles = append(singles, []api.Look{x})
	}
	slices.Reverse(singles)
	isUnion(t, 8, singles, great, api.OK)
}

// P14.2, P14.3: all pairs of the sets of one terminal, and of those of two terminals with strings of at most two.
func TestPairs(t *testing.T) {
	for _, c := range []struct{ terms, k int }{{1, 4}, {2, 2}} {
		all := subsets(universe(c.terms, c.k))
		for _, a := range all {
			for k := range 6 {
				isSingle(t, c.terms, k, a, plain("0"))
			}
			for _, b := range all {
				isPair(t, c.terms, a, b)
				for k := 1; k <= 4; k++ {
					isAdded(t, c.terms, k, a, b)
				}
			}
		}
	}
}

// P14.2, P14.3: sets of any strings.
func TestAnySets(t *testing.T) {
	r := rand.New(rand.NewSource(143))
	for range 2000 {
		terms := 1 + r.Intn(8)
		a, b := anySet(r, terms, 25), anySet(r, terms, 25)
		isSingle(t, terms, r.Intn(6), a, plain(anyWord(r, terms, 4)))
		isPair(t, terms, a, b)
		isAdded(t, terms, r.Intn(6), a, b)
		// Another set that has much of the first one.
		isPair(t, terms, a, subset(a, r.Int()))
		isPair(t, terms, subset(a, r.Int()), subset(a, r.Int()))
	}
}

// P14.3: sums and cuts of the greatest sets.
func TestGreatSums(t *testing.T) {
	all := universe(8, 4)
	for k := 1; k <= 4; k++ {
		want := universe(8, k)
		isSum(t, 8, k, all, all, want, api.OK)
		isSum(t, 8, k, all, set("-"), want, api.OK)
		isSum(t, 8, k, set("-"), all, want, api.OK)
		isSum(t, 8, k, all, nil, nil, api.OK)
		isSum(t, 8, k, nil, all, nil, api.OK)
		isCut(t, 8, k, all, want, api.OK)
	}
	var behind []api.Look
	for _, x := range universe(8, 3) {
		behind = append(behind, plain("7"+digits(x)))
	}
	isSum(t, 8, 4, set("7"), all, behind, api.OK)
}

// P14.3: Bound counts strings, whatever they are.
func TestBound(t *testing.T) {
	for _, n := range []int{0, 1, 599, 600, 601, 602, 4681, 4682, 20000, 65535, 65536, 65537, 65536 + 600, 65536 + 601, 1 << 17, 1<<17 + 1} {
		err := api.OK
		if n > 600 {
			err = api.ErrStrings
		}
		is(t, 0, lookset.Bound(make([]api.Look, n)), 0, err, "Bound", n)
		is(t, 0, lookset.Bound(slices.Repeat([]api.Look{{N: 9}}, n)), 0, err, "Bound of wrong looks", n)
	}
	is(t, 0, lookset.Bound(nil), 0, api.OK, "Bound of nil")
	is(t, 0, lookset.Bound(universe(8, 4)[:600]), 0, api.OK, "Bound of a set", 600)
	is(t, 0, lookset.Bound(universe(8, 4)[:601]), 0, api.ErrStrings, "Bound of a set", 601)
}

// P14.3, R4: Same, of any lists.
func TestSame(t *testing.T) {
	strangers := [][]api.Look{nil, set("-"), set("0"), set("1"), set("- 0"), set("0 -"), set("0 0"), {{N: 1, S: [4]int{0, 1}}}, {{N: 1, S: [4]int{0, 0, 0, 1}}}, {{N: 5}}, {{N: -5}}, make([]api.Look, 5000), make([]api.Look, 5001)}
	for i, a := range strangers {
		for j, b := range strangers {
			is(t, lookset.Same(a, slices.Clone(b)), api.OK, i == j, api.OK, "Same", a, b)
		}
	}
	is(t, lookset.Same(nil, []api.Look{}), api.OK, true, api.OK, "Same of nil and an empty list")
	is(t, lookset.Same([]api.Look{}, nil), api.OK, true, api.OK, "Same of an empty list and nil")
}

// right returns the set that a call returned, which must be one.
func right(t *testing.T, terms int, l []api.Look, e api.Errno) []api.Look {
	t.Helper()
	if e != api.OK || lookset.Check(terms, l) != api.OK {
		t.Fatalf("for %d terminals: %s, %v", terms, show(l), e)
	}
	return l
}

// union returns what Union says of sets.
func union(t *testing.T, terms int, l ...[]api.Look) []api.Look {
	t.Helper()
	u, e := lookset.Union(terms, l...)
	return right(t, terms, u, e)
}

// sum returns what Sum says of sets.
func sum(t *testing.T, terms, k int, a, b []api.Look) []api.Look {
	t.Helper()
	s, e := lookset.Sum(terms, k, a, b)
	return right(t, terms, s, e)
}

// cut returns what Cut says of a set.
func cut(t *testing.T, terms, k int, l []api.Look) []api.Look {
	t.Helper()
	c, e := lookset.Cut(terms, k, l)
	return right(t, terms, c, e)
}

// same demands that two sets are equal.
func same(t *testing.T, why string, a, b []api.Look) {
	t.Helper()
	if !lookset.Same(a, b) || !slices.Equal(a, b) {
		t.Errorf("%s: %s is not %s", why, show(a), show(b))
	}
}

// triples calls f with three sets and a lookahead, again and again.
func triples(seed int64, f func(terms, k int, a, b, c []api.Look)) {
	r := rand.New(rand.NewSource(seed))
	small := subsets(set("- 0 01"))
	for _, a := range small {
		for _, b := range small {
			for _, c := range small {
				for k := 1; k <= 4; k++ {
					f(2, k, a, b, c)
				}
			}
		}
	}
	for range 1000 {
		terms := 1 + r.Intn(8)
		f(terms, 1+r.Intn(4), anySet(r, terms, 12), anySet(r, terms, 12), anySet(r, terms, 12))
	}
}

// P14.4: Union and Meet do not depend on the order, Union is done in parts; what Meet and Less give are together the first set.
func TestUnionsInParts(t *testing.T) {
	triples(144, func(terms, k int, a, b, c []api.Look) {
		all := union(t, terms, a, b, c)
		for _, l := range [][][]api.Look{{a, c, b}, {b, a, c}, {b, c, a}, {c, a, b}, {c, b, a}, {union(t, terms, a, b), c}, {a, union(t, terms, b, c)}, {a, b, c, a, nil}} {
			same(t, "Union", union(t, terms, l...), all)
		}
		m, e := lookset.Meet(terms, a, b)
		m = right(t, terms, m, e)
		n, e := lookset.Meet(terms, b, a)
		same(t, "Meet", right(t, terms, n, e), m)
		l, e := lookset.Less(terms, a, b)
		l = right(t, terms, l, e)
		same(t, "Meet and Less", union(t, terms, m, l), a)
		none, e := lookset.Meet(terms, m, l)
		same(t, "Meet of Meet and Less", right(t, terms, none, e), nil)
		if len(m)+len(l) != len(a) {
			t.Errorf("%s: %d and %d", show(a), len(m), len(l))
		}
	})
}

// P14.5: the sum with the set of the empty string alone is the set cut to k, on both sides; sums are done in parts; the sum with the empty set is empty.
func TestSumsInParts(t *testing.T) {
	triples(145, func(terms, k int, a, b, c []api.Look) {
		same(t, "empty string behind", sum(t, terms, k, a, set("-")), cut(t, terms, k, a))
		same(t, "empty string before", sum(t, terms, k, set("-"), a), cut(t, terms, k, a))
		same(t, "parts", sum(t, terms, k, sum(t, terms, k, a, b), c), sum(t, terms, k, a, sum(t, terms, k, b, c)))
		same(t, "empty set behind", sum(t, terms, k, a, nil), nil)
		same(t, "empty set before", sum(t, terms, k, nil, a), nil)
	})
}

// P14.6: the sum of a union is the union of the sums.
func TestSumsOfUnions(t *testing.T) {
	triples(146, func(terms, k int, a, b, c []api.Look) {
		same(t, "union before", sum(t, terms, k, union(t, terms, a, b), c), union(t, terms, sum(t, terms, k, a, c), sum(t, terms, k, b, c)))
		same(t, "union behind", sum(t, terms, k, c, union(t, terms, a, b)), union(t, terms, sum(t, terms, k, c, a), sum(t, terms, k, c, b)))
	})
}

// P14.7: cutting to k and then to a lesser number is cutting to that; a sum for k depends on its sets cut to k alone.
func TestCutsInParts(t *testing.T) {
	triples(147, func(terms, k int, a, b, _ []api.Look) {
		for n := 1; n <= k; n++ {
			same(t, "Cut", cut(t, terms, n, cut(t, terms, k, a)), cut(t, terms, n, a))
			same(t, "Cut of Sum", cut(t, terms, n, sum(t, terms, k, a, b)), sum(t, terms, n, a, b))
		}
		shortA, shortB := cut(t, terms, k, a), cut(t, terms, k, b)
		want := sum(t, terms, k, a, b)
		same(t, "Sum", sum(t, terms, k, shortA, shortB), want)
		same(t, "Sum", sum(t, terms, k, shortA, b), want)
		same(t, "Sum", sum(t, terms, k, a, shortB), want)
	})
}

// P14.8: a set of its strings in any order, some of them twice, is this set; and least strings are the first ones.
func TestSetsOfTheirStrings(t *testing.T) {
	r := rand.New(rand.NewSource(148))
	triples(148, func(terms, k int, a, _, _ []api.Look) {
		l := slices.Concat(a, subset(a, r.Int()), subset(a, r.Int()))
		r.Shuffle(len(l), func(i, j int) { l[i], l[j] = l[j], l[i] })
		s, e := lookset.Of(terms, l)
		same(t, "Of", right(t, terms, s, e), a)
		if len(a) > 0 {
			isLeast(t, terms, a, a[0], api.OK)
		}
	})
	for terms := 1; terms <= 8; terms++ {
		for k := range 5 {
			all, e := look.All(terms, k)
			right(t, terms, all, e)
			same(t, "All", all, universe(terms, k))
		}
	}
}

// calls are all functions that return sets, with sets that are made of l alone.
func calls(l []api.Look) map[string][]api.Look {
	all := map[string][]api.Look{}
	all["Of"], _ = lookset.Of(3, l)
	all["Union"], _ = lookset.Union(3, l)
	all["Union of two"], _ = lookset.Union(3, nil, l, nil)
	all["Meet"], _ = lookset.Meet(3, l, l)
	all["Less"], _ = lookset.Less(3, l, nil)
	all["Sum"], _ = lookset.Sum(3, 4, l, set("-"))
	all["Sum before"], _ = lookset.Sum(3, 4, set("-"), l)
	all["Cut"], _ = lookset.Cut(3, 4, l)
	return all
}

// R4: arguments stay as they are, and so does the room behind them, and no result changes with them or with another result.
func TestNothingIsShared(t *testing.T) {
	want := set("- 01 0122 2")
	room := append(slices.Clone(want), set("11 0 7")...)
	before := slices.Clone(room)
	first, second := calls(room[:4]), calls(room[:4])
	for name, l := range first {
		same(t, name, l, want)
		l = append(l, plain("7"), plain("7"))
		for i := range l {
			l[i] = plain("6")
		}
		if !slices.Equal(room, before) {
			t.Fatalf("%s shares memory with its argument: %v", name, room)
		}
	}
	for i := range room {
		room[i] = plain("5")
	}
	for name, l := range second {
		same(t, name, l, want)
	}
}

// R4: the list of the sets of Union stays as it is, and cut sets are not changed.
func TestArgumentsStay(t *testing.T) {
	sets := [][]api.Look{set("2"), set("0 1"), set("-")}
	isUnion(t, 3, sets, set("- 0 1 2"), api.OK)
	if fmt.Sprint(sets) != fmt.Sprint([][]api.Look{set("2"), set("0 1"), set("-")}) {
		t.Errorf("Union: %v", sets)
	}
	l := set("2 1 2 1")
	isOf(t, 3, l, set("1 2"), api.OK)
	same(t, "Of", l, set("2 1 2 1"))
	a, b := set("- 00 01 02 1"), set("- 0 1 12")
	isCut(t, 3, 1, a, set("- 0 1"), api.OK)
	isAdded(t, 3, 1, a, b)
	isAdded(t, 3, 2, a, b)
	isPair(t, 3, a, b)
	same(t, "first", a, set("- 00 01 02 1"))
	same(t, "second", b, set("- 0 1 12"))
}

// R4: a nil list and an empty one are equal.
func TestNilAndEmpty(t *testing.T) {
	for _, none := range [][]api.Look{nil, {}} {
		isCheck(t, 1, none, api.OK)
		isOf(t, 1, none, nil, api.OK)
		isHas(t, 1, none, plain("0"), false, api.OK)
		isPair(t, 1, none, nil)
		isPair(t, 1, none, []api.Look{})
		isPair(t, 1, none, set("0"))
		isPair(t, 1, set("0"), none)
		isAdded(t, 1, 2, none, set("0"))
		isAdded(t, 1, 2, set("0"), none)
		isCut(t, 1, 2, none, nil, api.OK)
		isLeast(t, 1, none, api.Look{}, api.ErrEmpty)
	}
}

// R6: the same arguments lead to the same results each time.
func TestAgain(t *testing.T) {
	l := universe(3, 4)
	slices.Reverse(l)
	for range 20 {
		isOf(t, 3, l, universe(3, 4), api.OK)
		isAdded(t, 3, 3, set("- 0 01 12"), set("0 2 20"))
	}
}

// P1, R5: no argument is too great or too strange.
func TestAllArgumentsAreTaken(t *testing.T) {
	r := rand.New(rand.NewSource(1))
	numbers := append([]int{0, 1, 2, 3, 4, 5, 6, 7, 8}, strange...)
	pick := func() int { return numbers[r.Intn(len(numbers))] }
	list := func() []api.Look {
		l := anySet(r, 1+r.Intn(8), 6)
		if len(l) == 0 || r.Intn(2) == 0 {
			return l
		}
		x := &l[r.Intn(len(l))]
		switch r.Intn(4) {
		case 0:
			x.N = pick()
		case 1:
			x.S[r.Intn(4)] = pick()
		case 2:
			*x = l[r.Intn(len(l))]
		default:
			slices.Reverse(l)
		}
		return l
	}
	count := map[api.Errno]int{}
	for range 10000 {
		terms, k := pick(), pick()
		if r.Intn(2) == 0 {
			terms, k = 1+r.Intn(8), 1+r.Intn(4)
		}
		a, b := list(), list()
		count[wantK(wantCheck(terms, a, b), k)]++
		x := api.Look{N: r.Intn(5)}
		if len(b) > 0 && r.Intn(2) == 0 {
			x = b[0]
		}
		isSingle(t, terms, k, a, x)
		isPair(t, terms, a, b)
		isAdded(t, terms, k, a, b)
		is(t, 0, lookset.Bound(a), 0, api.OK, "Bound", len(a))
	}
	if len(count) != 5 || count[api.OK] < 1000 {
		t.Errorf("the arguments are too much alike: %v", count)
	}
}
