package intern_test

import (
	"math"
	"math/rand"
	"slices"
	"strconv"
	"strings"
	"testing"

	"stenotype/api"
	"stenotype/intern"
	"stenotype/name"
)

// most is how many names a table may have.
const most = 32

// shown is the table of the examples.
func shown() api.Table { return tab("a", "B", "c1") }

// tab returns the table with these names, whatever they are.
func tab(l ...string) api.Table {
	return api.Table{Names: slices.Clone(l)}
}

// numbered returns the first n numbers, each behind the letters.
func numbered(letters string, n int) []string {
	var l []string
	for i := range n {
		l = append(l, letters+strconv.Itoa(i))
	}
	return l
}

// sizes are tables with all numbers of names that are allowed.
func sizes() []api.Table {
	var l []api.Table
	for n := range most + 1 {
		l = append(l, tab(numbered("n", n)...))
	}
	return l
}

// tables are valid tables of many kinds and of all sizes.
func tables() []api.Table {
	l := append(sizes(), api.Table{}, api.Table{Names: []string{}}, shown(), tab("c1", "x", "a"), tab("x"), tab("B", "b", "BB", "bb"),
		tab("a", "aa", "a_", "a0", "A", "Token", "tokens", "abcdefghijkl", "abcdefghijkL"), tab(numbered("N", most)...))
	r := rand.New(rand.NewSource(6))
	for n := range most + 1 {
		// Of few names many are in two tables, of many names few.
		few, many := r.Perm(most + 4)[:n], r.Perm(1000)[:n]
		var x, y api.Table
		for i := range n {
			x.Names = append(x.Names, "n"+strconv.Itoa(few[i]))
			y.Names = append(y.Names, "Name"+strconv.Itoa(many[i]))
		}
		l = append(l, x, y)
	}
	return l
}

// noNames are strings that are no names, with what name.Check says of them.
func noNames() map[string]api.Errno {
	return map[string]api.Errno{
		"": api.ErrShort, "1": api.ErrForm, "_a": api.ErrForm, "a-b": api.ErrForm, "a ": api.ErrForm, "é": api.ErrForm, "a\x00": api.ErrForm, "\xff": api.ErrForm,
		"abcdefghijklm": api.ErrLong, strings.Repeat("A", 5000): api.ErrLong, strings.Repeat("-", 5000): api.ErrForm,
		"lookahead": api.ErrName, "token": api.ErrName, "separator": api.ErrName, "start": api.ErrName,
	}
}

// wrongTable is a table that is not valid, with what Check says of it.
type wrongTable struct {
	t  api.Table
	e  api.Errno
	at int
}

// wrongTables are tables of many kinds that are not valid.
func wrongTables() []wrongTable {
	l := []wrongTable{
		{tab("a", "a"), api.ErrExists, 1},
		{tab("a", "b", "c", "b", "a"), api.ErrExists, 3},
		{tab("a", "b", "a", "b", "1"), api.ErrExists, 2},
		{tab("a", "1", "a", "1"), api.ErrForm, 1},
		// Of two names that are wrong in the same way the first one is told, and not that it stands there twice.
		{tab("b", "", ""), api.ErrShort, 1},
		{tab("token", "a", "token"), api.ErrName, 0},
		{tab("b", "abcdefghijklm", "1", ""), api.ErrLong, 1},
		{tab(slices.Repeat([]string{"a"}, most)...), api.ErrExists, 1},
		// How many there are counts before what they are.
		{tab(numbered("n", most+1)...), api.ErrFull, 0},
		{tab(numbered("n", 1000)...), api.ErrFull, 0},
		{tab(slices.Repeat([]string{"a"}, most+1)...), api.ErrFull, 0},
		{tab(slices.Repeat([]string{""}, most+1)...), api.ErrFull, 0},
		{tab(append(numbered("n", most), "1")...), api.ErrFull, 0},
		{tab(append([]string{"token", "token"}, numbered("n", most)...)...), api.ErrFull, 0},
	}
	for late := range most {
		for s, e := range noNames() {
			x := numbered("n", most)
			x[late] = s
			l = append(l, wrongTable{api.Table{Names: x}, e, late})
		}
		for early := range late {
			x := numbered("n", most)
			x[late] = x[early]
			l = append(l, wrongTable{api.Table{Names: x}, api.ErrExists, late})
		}
	}
	return l
}

// verdict returns what Check must say of the table with the names l.
func verdict(l []string) (api.Errno, int) {
	if len(l) > most {
		return api.ErrFull, 0
	}
	for i, s := range l {
		if e := name.Check(s); e != api.OK {
			return e, i
		}
		if slices.Contains(l[:i], s) {
			return api.ErrExists, i
		}
	}
	return api.OK, 0
}

// same reports whether t has these names.
func same(t api.Table, l []string) bool {
	return slices.Equal(t.Names, l)
}

// mustMerge returns what comes of merging two tables that have room.
func mustMerge(t *testing.T, a, b api.Table) (api.Table, []int) {
	t.Helper()
	x, l, e := intern.Merge(a, b)
	if e != api.OK || len(l) != len(b.Names) {
		t.Fatalf("Merge(%q, %q) = %q, %v, %v", a.Names, b.Names, x.Names, l, e)
	}
	return x, l
}

// mustKeep returns the table of the names with these numbers, which are right.
func mustKeep(t *testing.T, x api.Table, which []int) api.Table {
	t.Helper()
	y, e := intern.Keep(x, which)
	if e != api.OK || len(y.Names) != len(which) {
		t.Fatalf("Keep(%q, %v) = %q, %v", x.Names, which, y.Names, e)
	}
	return y
}

// upTo are the numbers from 0 to n - 1.
func upTo(n int) []int {
	var l []int
	for i := range n {
		l = append(l, i)
	}
	return l
}

// P6.1, with the last row of the examples.
func TestCheck(t *testing.T) {
	for _, x := range tables() {
		if e, at := intern.Check(x); e != api.OK || at != 0 {
			t.Errorf("Check(%q) = %v, %d", x.Names, e, at)
		}
	}
	for _, c := range wrongTables() {
		if e, at := intern.Check(c.t); e != c.e || at != c.at {
			t.Errorf("Check(%.40q) = %v, %d; want %v, %d", c.t.Names, e, at, c.e, c.at)
		}
	}
	for _, n := range []int{33, 34, 64, 1 << 20} {
		if e, at := intern.Check(api.Table{Names: make([]string, n)}); e != api.ErrFull || at != 0 {
			t.Errorf("Check of %d names: %v, %d; want ErrFull, 0", n, e, at)
		}
	}
}

// P6.1: tables of all kinds of names, right and wrong, once and twice, held against the words of the chapter.
func TestCheckAtRandom(t *testing.T) {
	r := rand.New(rand.NewSource(61))
	seen := map[api.Errno]int{}
	for range 20000 {
		l := make([]string, r.Intn(36))
		for i := range l {
			l[i] = "n" + strconv.Itoa(r.Intn(400))
			if r.Intn(40) == 0 {
				l[i] = []string{"", "1", "token", "start", "abcdefghijklm", "n1", "N1", "é", "n-"}[r.Intn(9)]
			}
		}
		want, wantAt := verdict(l)
		e, at := intern.Check(api.Table{Names: l})
		if e != want || at != wantAt {
			t.Fatalf("Check(%q) = %v, %d; want %v, %d", l, e, at, want, wantAt)
		}
		x, f := intern.Of(l...)
		if f != want || f == api.OK && !same(x, l) || f != api.OK && len(x.Names) != 0 {
			t.Fatalf("Of(%q) = %q, %v; want %v", l, x.Names, f, want)
		}
		seen[want]++
	}
	for _, e := range []api.Errno{api.OK, api.ErrFull, api.ErrExists, api.ErrShort, api.ErrForm, api.ErrLong, api.ErrName} {
		if seen[e] < 100 {
			t.Errorf("only %d tables with %v", seen[e], e)
		}
	}
}

// P6.1: the error of the table comes first, whatever else is wrong, and alone (R1 and R3).
func TestErrorOfTheTableComesFirst(t *testing.T) {
	for _, c := range wrongTables() {
		for _, s := range []string{"a", "n0", "n31", "fresh", "", "1", "token", "abcdefghijklm"} {
			if x, n, e := intern.Intern(c.t, s); len(x.Names) != 0 || n != 0 || e != c.e {
				t.Fatalf("Intern(%.40q, %q) = %.40q, %d, %v; want %v", c.t.Names, s, x.Names, n, e, c.e)
			}
			if x, n, e := intern.Add(c.t, s); len(x.Names) != 0 || n != 0 || e != c.e {
				t.Fatalf("Add(%.40q, %q) = %.40q, %d, %v; want %v", c.t.Names, s, x.Names, n, e, c.e)
			}
			if n, e := intern.Find(c.t, s); n != 0 || e != c.e {
				t.Fatalf("Find(%.40q, %q) = %d, %v; want %v", c.t.Names, s, n, e, c.e)
			}
		}
		for _, n := range []int{math.MinInt, -1, 0, 1, 31, 32, math.MaxInt} {
			if s, e := intern.Name(c.t, n); s != "" || e != c.e {
				t.Fatalf("Name(%.40q, %d) = %.40q, %v; want %v", c.t.Names, n, s, e, c.e)
			}
			for _, which := range [][]int{nil, {n}, {n, n}, {0, n}} {
				if x, e := intern.Keep(c.t, which); len(x.Names) != 0 || e != c.e {
					t.Fatalf("Keep(%.40q, %v) = %.40q, %v; want %v", c.t.Names, which, x.Names, e, c.e)
				}
			}
		}
		if x, e := intern.Of(c.t.Names...); len(x.Names) != 0 || e != c.e {
			t.Fatalf("Of(%.40q) = %.40q, %v; want %v", c.t.Names, x.Names, e, c.e)
		}
	}
}

// P6.1: of two tables for Merge a counts before b, and both before the room.
func TestErrorsOfTwoTables(t *testing.T) {
	full, some := tab(numbered("x", most)...), wrongTables()[:14]
	for _, c := range wrongTables() {
		for _, d := range []api.Table{{}, shown(), tab("n0", "n1"), full} {
			if x, l, e := intern.Merge(c.t, d); len(x.Names) != 0 || len(l) != 0 || e != c.e {
				t.Fatalf("Merge(%.40q, %q) = %.40q, %v, %v; want %v", c.t.Names, d.Names, x.Names, l, e, c.e)
			}
			if x, l, e := intern.Merge(d, c.t); len(x.Names) != 0 || len(l) != 0 || e != c.e {
				t.Fatalf("Merge(%q, %.40q) = %.40q, %v, %v; want %v", d.Names, c.t.Names, x.Names, l, e, c.e)
			}
		}
		for _, d := range some {
			if x, l, e := intern.Merge(c.t, d.t); len(x.Names) != 0 || len(l) != 0 || e != c.e {
				t.Fatalf("Merge(%.40q, %.40q) = %.40q, %v, %v; want %v", c.t.Names, d.t.Names, x.Names, l, e, c.e)
			}
		}
	}
}

// P6.2, with the last row of the examples.
func TestOf(t *testing.T) {
	for _, c := range []struct {
		l []string
		e api.Errno
	}{
		{[]string{"a", "a"}, api.ErrExists},
		{nil, api.OK},
		{[]string{}, api.OK},
		{[]string{"a"}, api.OK},
		{[]string{"a", "B", "c1"}, api.OK},
		{[]string{"c1", "B", "a"}, api.OK},
		{[]string{"a", "A"}, api.OK},
		{[]string{"a", "token"}, api.ErrName},
		{[]string{""}, api.ErrShort},
		{numbered("n", most), api.OK},
		{numbered("n", most+1), api.ErrFull},
	} {
		x, e := intern.Of(c.l...)
		if e != c.e || e == api.OK && !same(x, c.l) || e != api.OK && len(x.Names) != 0 {
			t.Errorf("Of(%q) = %q, %v; want %v", c.l, x.Names, e, c.e)
		}
	}
	if x, e := intern.Of(); len(x.Names) != 0 || e != api.OK {
		t.Errorf("Of() = %q, %v", x.Names, e)
	}
	for _, x := range tables() {
		if y, e := intern.Of(x.Names...); !same(y, x.Names) || e != api.OK {
			t.Errorf("Of(%q) = %q, %v", x.Names, y.Names, e)
		}
	}
}

// P6.2, with the second row of the examples.
func TestInternAndAdd(t *testing.T) {
	full := numbered("n", most)
	for _, c := range []struct {
		l        []string
		s        string
		want     []string
		n        int
		e, added api.Errno
	}{
		{[]string{"a", "B", "c1"}, "a", []string{"a", "B", "c1"}, 0, api.OK, api.ErrExists},
		{[]string{"a", "B", "c1"}, "B", []string{"a", "B", "c1"}, 1, api.OK, api.ErrExists},
		{[]string{"a", "B", "c1"}, "c1", []string{"a", "B", "c1"}, 2, api.OK, api.ErrExists},
		{[]string{"a", "B", "c1"}, "d", []string{"a", "B", "c1", "d"}, 3, api.OK, api.OK},
		{[]string{"a", "B", "c1"}, "b", []string{"a", "B", "c1", "b"}, 3, api.OK, api.OK},
		{[]string{"a", "B", "c1"}, "A", []string{"a", "B", "c1", "A"}, 3, api.OK, api.OK},
		{[]string{"a", "B", "c1"}, "c", []string{"a", "B", "c1", "c"}, 3, api.OK, api.OK},
		{[]string{"a", "B", "c1"}, "c10", []string{"a", "B", "c1", "c10"}, 3, api.OK, api.OK},
		{nil, "Z", []string{"Z"}, 0, api.OK, api.OK},
		{nil, "abcdefghijkl", []string{"abcdefghijkl"}, 0, api.OK, api.OK},
		{[]string{}, "tokens", []string{"tokens"}, 0, api.OK, api.OK},
		{full[:31], "d", append(slices.Clone(full[:31]), "d"), 31, api.OK, api.OK},
		{full[:31], "n30", full[:31], 30, api.OK, api.ErrExists},
		// A name that is there needs no room.
		{full, "n31", full, 31, api.OK, api.ErrExists},
		{full, "n0", full, 0, api.OK, api.ErrExists},
		{full, "d", nil, 0, api.ErrFull, api.ErrFull},
		// What is no name counts before the room.
		{full, "", nil, 0, api.ErrShort, api.ErrShort},
		{full, "1", nil, 0, api.ErrForm, api.ErrForm},
	} {
		if x, n, e := intern.Intern(api.Table{Names: c.l}, c.s); !same(x, c.want) || n != c.n || e != c.e {
			t.Errorf("Intern(%q, %q) = %q, %d, %v; want %q, %d, %v", c.l, c.s, x.Names, n, e, c.want, c.n, c.e)
		}
		want, wantN := c.want, c.n
		if c.added != api.OK {
			want, wantN = nil, 0
		}
		if x, n, e := intern.Add(api.Table{Names: c.l}, c.s); !same(x, want) || n != wantN || e != c.added {
			t.Errorf("Add(%q, %q) = %q, %d, %v; want %q, %d, %v", c.l, c.s, x.Names, n, e, want, wantN, c.added)
		}
	}
}

// P6.2: what is no name is refused as such, and alone (R3).
func TestNoNames(t *testing.T) {
	for s, want := range noNames() {
		if e := name.Check(s); e != want {
			t.Fatalf("name.Check(%.40q) = %v, want %v", s, e, want)
		}
		for _, x := range tables() {
			if y, n, e := intern.Intern(x, s); len(y.Names) != 0 || n != 0 || e != want {
				t.Errorf("Intern(%q, %.40q) = %q, %d, %v; want %v", x.Names, s, y.Names, n, e, want)
			}
			if y, n, e := intern.Add(x, s); len(y.Names) != 0 || n != 0 || e != want {
				t.Errorf("Add(%q, %.40q) = %q, %d, %v; want %v", x.Names, s, y.Names, n, e, want)
			}
			if n, e := intern.Find(x, s); n != 0 || e != want {
				t.Errorf("Find(%q, %.40q) = %d, %v; want %v", x.Names, s, n, e, want)
			}
		}
	}
}

// P6.2, with the first row of the examples.
func TestFind(t *testing.T) {
	for _, c := range []struct {
		s string
		n int
		e api.Errno
	}{
		{"B", 1, api.OK}, {"d", 0, api.ErrMissing}, {"", 0, api.ErrShort}, {"a", 0, api.OK}, {"c1", 2, api.OK},
		{"A", 0, api.ErrMissing}, {"b", 0, api.ErrMissing}, {"c", 0, api.ErrMissing}, {"c11", 0, api.ErrMissing}, {"token", 0, api.ErrName},
	} {
		if n, e := intern.Find(shown(), c.s); n != c.n || e != c.e {
			t.Errorf("Find(%q) = %d, %v; want %d, %v", c.s, n, e, c.n, c.e)
		}
	}
	all := tables()
	for _, l := range all {
		for _, x := range all {
			for _, s := range x.Names {
				n, e := intern.Find(l, s)
				if want := slices.Index(l.Names, s); want < 0 && (n != 0 || e != api.ErrMissing) || want >= 0 && (n != want || e != api.OK) {
					t.Fatalf("Find(%q, %q) = %d, %v; want %d", l.Names, s, n, e, want)
				}
			}
		}
	}
}

// P6.2, with the third row of the examples (and R5: numbers may be any).
func TestName(t *testing.T) {
	for _, c := range []struct {
		n int
		s string
		e api.Errno
	}{
		{2, "c1", api.OK}, {3, "", api.ErrRange}, {-1, "", api.ErrRange}, {0, "a", api.OK}, {1, "B", api.OK}, {4, "", api.ErrRange}, {-2, "", api.ErrRange}, {-3, "", api.ErrRange},
		{math.MaxInt, "", api.ErrRange}, {math.MinInt, "", api.ErrRange}, {1 << 32, "", api.ErrRange}, {1<<32 + 2, "", api.ErrRange}, {-1 << 32, "", api.ErrRange},
	} {
		if s, e := intern.Name(shown(), c.n); s != c.s || e != c.e {
			t.Errorf("Name(%d) = %q, %v; want %q, %v", c.n, s, e, c.s, c.e)
		}
	}
	for _, x := range tables() {
		for n := -2; n < most+2; n++ {
			s, e := intern.Name(x, n)
			if is := n >= 0 && n < len(x.Names); is && (s != x.Names[n] || e != api.OK) || !is && (s != "" || e != api.ErrRange) {
				t.Errorf("Name(%q, %d) = %q, %v", x.Names, n, s, e)
			}
		}
	}
}

// P6.3, with the fourth row of the examples.
func TestMerge(t *testing.T) {
	full := numbered("n", most)
	for _, c := range []struct {
		a, b, want []string
		l          []int
		e          api.Errno
	}{
		{[]string{"a", "B", "c1"}, []string{"c1", "x", "a"}, []string{"a", "B", "c1", "x"}, []int{2, 3, 0}, api.OK},
		{[]string{"c1", "x", "a"}, []string{"a", "B", "c1"}, []string{"c1", "x", "a", "B"}, []int{2, 3, 0}, api.OK},
		{nil, []string{"x", "a"}, []string{"x", "a"}, []int{0, 1}, api.OK},
		{[]string{"x", "a"}, nil, []string{"x", "a"}, nil, api.OK},
		{nil, nil, nil, nil, api.OK},
		{[]string{"a"}, []string{"A", "b", "B"}, []string{"a", "A", "b", "B"}, []int{1, 2, 3}, api.OK},
		{nil, full, full, upTo(most), api.OK},
		{full, nil, full, nil, api.OK},
		// Names that are there need no room.
		{full, []string{"n31", "n0"}, full, []int{31, 0}, api.OK},
		{full[:31], []string{"n3", "x", "n0"}, append(slices.Clone(full[:31]), "x"), []int{3, 31, 0}, api.OK},
		{full[:30], []string{"x", "n3", "y"}, append(slices.Clone(full[:30]), "x", "y"), []int{30, 3, 31}, api.OK},
		{full, []string{"x"}, nil, nil, api.ErrFull},
		{full, []string{"n0", "x", "n1"}, nil, nil, api.ErrFull},
		{full[:31], []string{"x", "n3", "y"}, nil, nil, api.ErrFull},
		{[]string{"x"}, full, nil, nil, api.ErrFull},
		{full, numbered("N", most), nil, nil, api.ErrFull},
	} {
		x, l, e := intern.Merge(api.Table{Names: c.a}, api.Table{Names: c.b})
		if !same(x, c.want) || !slices.Equal(l, c.l) || e != c.e {
			t.Errorf("Merge(%q, %q) = %q, %v, %v; want %q, %v, %v", c.a, c.b, x.Names, l, e, c.want, c.l, c.e)
		}
	}
}

// P6.3: to merge is to intern one name after the other.
func TestMergeIsInterningAll(t *testing.T) {
	merged, refused := 0, 0
	all := tables()
	for _, a := range all {
		for _, b := range all {
			want, numbers, err := a, []int(nil), api.OK
			for _, s := range b.Names {
				x, n, e := intern.Intern(want, s)
				if e != api.OK {
					want, numbers, err = api.Table{}, nil, e
					break
				}
				want, numbers = x, append(numbers, n)
			}
			x, l, e := intern.Merge(a, b)
			if !same(x, want.Names) || !slices.Equal(l, numbers) || e != err || e != api.OK && e != api.ErrFull {
				t.Fatalf("Merge(%q, %q) = %q, %v, %v; want %q, %v, %v", a.Names, b.Names, x.Names, l, e, want.Names, numbers, err)
			}
			if e == api.OK {
				merged++
			} else {
				refused++
			}
		}
	}
	if merged < 1000 || refused < 1000 {
		t.Errorf("%d merged, %d refused", merged, refused)
	}
}

// P6.3, with the fifth row of the examples.
func TestKeep(t *testing.T) {
	for _, c := range []struct {
		which []int
		want  []string
		e     api.Errno
	}{
		{[]int{2, 0}, []string{"c1", "a"}, api.OK},
		{[]int{0, 0}, nil, api.ErrExists},
		{[]int{3}, nil, api.ErrRange},
		{nil, nil, api.OK},
		{[]int{}, nil, api.OK},
		{[]int{1}, []string{"B"}, api.OK},
		{[]int{0, 1, 2}, []string{"a", "B", "c1"}, api.OK},
		{[]int{2, 1, 0}, []string{"c1", "B", "a"}, api.OK},
		{[]int{-1}, nil, api.ErrRange},
		{[]int{0, 1, -1}, nil, api.ErrRange},
		{[]int{0, 1, 2, 1}, nil, api.ErrExists},
		{[]int{2, 1, 2}, nil, api.ErrExists},
		// What is no number counts before what stands there twice, wherever it stands.
		{[]int{0, 0, 3}, nil, api.ErrRange},
		{[]int{3, 0, 0}, nil, api.ErrRange},
		{[]int{3, 3}, nil, api.ErrRange},
		{[]int{-1, -1}, nil, api.ErrRange},
		{[]int{math.MaxInt, math.MinInt}, nil, api.ErrRange},
		{[]int{0, 1 << 32}, nil, api.ErrRange},
		{slices.Repeat([]int{0}, most+1), nil, api.ErrExists},
		{append(slices.Repeat([]int{0}, most), 3), nil, api.ErrRange},
	} {
		if x, e := intern.Keep(shown(), c.which); !same(x, c.want) || e != c.e {
			t.Errorf("Keep(%v) = %q, %v; want %q, %v", c.which, x.Names, e, c.want, c.e)
		}
	}
	if x, e := intern.Keep(api.Table{}, []int{0}); len(x.Names) != 0 || e != api.ErrRange {
		t.Errorf("Keep of none: %q, %v", x.Names, e)
	}
	// More numbers than a table has places stand there twice; the table does not become full.
	full := tab(numbered("n", most)...)
	for n := range most {
		if x, e := intern.Keep(full, append(upTo(most), n)); len(x.Names) != 0 || e != api.ErrExists {
			t.Errorf("Keep of all and %d: %q, %v", n, x.Names, e)
		}
	}
}

// P6.3: numbers at random, held against the words of the chapter.
func TestKeepAtRandom(t *testing.T) {
	r := rand.New(rand.NewSource(63))
	seen := map[api.Errno]int{}
	for _, x := range tables() {
		for range 300 {
			which := r.Perm(len(x.Names))[:r.Intn(len(x.Names)+1)]
			if len(which) > 0 && r.Intn(3) == 0 {
				which = append(which, which[r.Intn(len(which))])
			}
			if r.Intn(4) == 0 {
				which = slices.Insert(which, r.Intn(len(which)+1), []int{-1, len(x.Names), math.MaxInt, math.MinInt}[r.Intn(4)])
			}
			err, want, count := api.OK, []string(nil), map[int]bool{}
			for _, n := range which {
				if n < 0 || n >= len(x.Names) {
					err, want = api.ErrRange, nil
					break
				}
				want = append(want, x.Names[n])
				count[n] = true
			}
			if err == api.OK && len(count) < len(which) {
				err, want = api.ErrExists, nil
			}
			if y, e := intern.Keep(x, which); !same(y, want) || e != err {
				t.Fatalf("Keep(%q, %v) = %q, %v; want %q, %v", x.Names, which, y.Names, e, want, err)
			}
			seen[err]++
		}
	}
	for _, e := range []api.Errno{api.OK, api.ErrRange, api.ErrExists} {
		if seen[e] < 1000 {
			t.Errorf("only %d lists with %v", seen[e], e)
		}
	}
}

// P6.3: tables are the same if their names are, be they valid or not.
func TestSame(t *testing.T) {
	for _, c := range []struct {
		a, b []string
		want bool
	}{
		{nil, nil, true}, {nil, []string{}, true}, {[]string{}, nil, true}, {[]string{}, []string{}, true},
		{[]string{"a", "B"}, []string{"a", "B"}, true}, {[]string{"a", "B"}, []string{"B", "a"}, false}, {[]string{"a"}, []string{"A"}, false},
		{[]string{"a"}, nil, false}, {nil, []string{"a"}, false}, {[]string{"a"}, []string{"a", "b"}, false}, {[]string{"a", "b"}, []string{"a"}, false},
		{[]string{"ab"}, []string{"a", "b"}, false}, {[]string{"a", ""}, []string{"a"}, false}, {nil, []string{""}, false},
		{[]string{"1"}, []string{"1"}, true}, {[]string{""}, []string{""}, true}, {[]string{"a", "a"}, []string{"a", "a"}, true}, {[]string{"a", "a"}, []string{"a"}, false},
		{[]string{"token", "\xff"}, []string{"token", "\xff"}, true}, {[]string{"\xff"}, []string{"\xfe"}, false}, {[]string{"\xff"}, []string{"\ufffd"}, false},
		{numbered("n", 100), numbered("n", 100), true}, {numbered("n", 100), numbered("n", 101), false}, {numbered("n", 33), numbered("n", 34)[:33], true},
		{append(numbered("n", 99), "a"), append(numbered("n", 99), "b"), false}, {append([]string{"a"}, numbered("n", 99)...), append([]string{"b"}, numbered("n", 99)...), false},
	} {
		if got := intern.Same(api.Table{Names: c.a}, api.Table{Names: c.b}); got != c.want {
			t.Errorf("Same(%q, %q) = %v", c.a, c.b, got)
		}
	}
	l := tables()
	for _, a := range l {
		for _, b := range l {
			if got := intern.Same(a, b); got != same(a, b.Names) {
				t.Errorf("Same(%q, %q) = %v", a.Names, b.Names, got)
			}
		}
	}
}

// P6.4
func TestNamesAndNumbers(t *testing.T) {
	for _, x := range tables() {
		for n, s := range x.Names {
			got, e := intern.Find(x, s)
			back, f := intern.Name(x, got)
			if got != n || back != s || e != api.OK || f != api.OK {
				t.Errorf("%q at %d of %q: %d, %v, and %q, %v", s, n, x.Names, got, e, back, f)
			}
		}
	}
}

// P6.5
func TestInterningTwice(t *testing.T) {
	for _, x := range tables() {
		for _, s := range append([]string{"a", "n0", "N0", "fresh"}, x.Names...) {
			once, n, e := intern.Intern(x, s)
			if e == api.ErrFull {
				continue
			}
			twice, m, f := intern.Intern(once, s)
			if e != api.OK || f != api.OK || n != m || !intern.Same(once, twice) {
				t.Errorf("Intern(%q, %q) = %q, %d, %v; again: %q, %d, %v", x.Names, s, once.Names, n, e, twice.Names, m, f)
			}
			for number, old := range x.Names {
				if got, e := intern.Find(once, old); got != number || e != api.OK {
					t.Errorf("%q was at %d of %q, and is at %d (%v) with %q", old, number, x.Names, got, e, s)
				}
			}
			if got, e := intern.Name(once, n); got != s || e != api.OK || len(once.Names) > len(x.Names)+1 {
				t.Errorf("Intern(%q, %q) = %q, %d", x.Names, s, once.Names, n)
			}
		}
	}
}

// P6.6
func TestMergingWithItself(t *testing.T) {
	all := tables()
	for _, a := range all {
		x, l := mustMerge(t, a, a)
		if !intern.Same(x, a) || !slices.Equal(l, upTo(len(a.Names))) {
			t.Errorf("Merge(%q, itself) = %q, %v", a.Names, x.Names, l)
		}
		for _, b := range all {
			x, l, e := intern.Merge(a, b)
			if e != api.OK {
				continue
			}
			for i, n := range l {
				if s, e := intern.Name(x, n); s != b.Names[i] || e != api.OK {
					t.Errorf("Merge(%q, %q) = %q, %v", a.Names, b.Names, x.Names, l)
				}
			}
			for n, s := range a.Names {
				if got, e := intern.Name(x, n); got != s || e != api.OK {
					t.Errorf("Merge(%q, %q) = %q, %v", a.Names, b.Names, x.Names, l)
				}
			}
		}
	}
}

// P6.7
func TestMergingIsInOrder(t *testing.T) {
	r := rand.New(rand.NewSource(67))
	merged, refused := 0, 0
	for range 5000 {
		var l [3]api.Table
		for i := range l {
			for _, n := range r.Perm(45)[:r.Intn(25)] {
				l[i].Names = append(l[i].Names, "n"+strconv.Itoa(n))
			}
		}
		left, last, e := intern.Merge(l[0], l[1])
		if e == api.OK {
			left, last, e = intern.Merge(left, l[2])
		}
		right, numbers := api.Table{}, []int(nil)
		bc, toBC, f := intern.Merge(l[1], l[2])
		if f == api.OK {
			right, numbers, f = intern.Merge(l[0], bc)
		}
		if e != f || !intern.Same(left, right) {
			t.Fatalf("%q: %q, %v, and %q, %v", l, left.Names, e, right.Names, f)
		}
		if e != api.OK {
			refused++
			continue
		}
		merged++
		for i := range l[2].Names {
			if last[i] != numbers[toBC[i]] {
				t.Fatalf("%q: %v, and %v by %v", l, last, numbers, toBC)
			}
		}
	}
	if merged < 1000 || refused < 100 {
		t.Errorf("%d merged, %d refused", merged, refused)
	}
}

// P6.8
func TestKeepingKeptOnes(t *testing.T) {
	r := rand.New(rand.NewSource(68))
	for _, x := range tables() {
		if y := mustKeep(t, x, upTo(len(x.Names))); !intern.Same(x, y) {
			t.Errorf("all of %q are %q", x.Names, y.Names)
		}
		for range 100 {
			first := r.Perm(len(x.Names))[:r.Intn(len(x.Names)+1)]
			second := r.Perm(len(first))[:r.Intn(len(first)+1)]
			var both []int
			for _, n := range second {
				both = append(both, first[n])
			}
			y, z := mustKeep(t, mustKeep(t, x, first), second), mustKeep(t, x, both)
			if !intern.Same(y, z) {
				t.Fatalf("%v of %v of %q are %q, and not %q", second, first, x.Names, y.Names, z.Names)
			}
		}
	}
}

// use calls every function with the table and with what is in it.
func use(x api.Table, which []int) {
	intern.Check(x)
	intern.Of(x.Names...)
	for _, s := range []string{"a", "n0", "fresh", "", "token"} {
		intern.Intern(x, s)
		intern.Add(x, s)
		intern.Find(x, s)
	}
	intern.Name(x, 0)
	intern.Merge(x, tab("fresh", "a"))
	intern.Merge(tab("fresh", "a"), x)
	intern.Merge(x, x)
	intern.Keep(x, which)
	intern.Same(x, x)
}

// R4: arguments are not changed, nor the room behind them.
func TestArgumentsStay(t *testing.T) {
	l := tables()
	for _, c := range wrongTables() {
		l = append(l, c.t)
	}
	for _, x := range l {
		room := append(slices.Clone(x.Names), "left", "alone", "behind")
		numbers := append(upTo(len(x.Names)), 98, 99)
		wasRoom, wasNumbers := slices.Clone(room), slices.Clone(numbers)
		use(api.Table{Names: room[:len(x.Names)]}, numbers[:len(x.Names)])
		if !slices.Equal(room, wasRoom) || !slices.Equal(numbers, wasNumbers) {
			t.Fatalf("%q became %q; %v became %v", wasRoom, room, wasNumbers, numbers)
		}
	}
}

// R4: results share no memory with arguments or with each other.
func TestNothingIsShared(t *testing.T) {
	for n, call := range []func(x api.Table) (api.Table, []int){
		func(x api.Table) (api.Table, []int) { y, _ := intern.Of(x.Names...); return y, nil },
		func(x api.Table) (api.Table, []int) { y, _, _ := intern.Intern(x, "B"); return y, nil },
		func(x api.Table) (api.Table, []int) { y, _, _ := intern.Intern(x, "d"); return y, nil },
		func(x api.Table) (api.Table, []int) { y, _, _ := intern.Add(x, "d"); return y, nil },
		func(x api.Table) (api.Table, []int) { y, l, _ := intern.Merge(x, api.Table{}); return y, l },
		func(x api.Table) (api.Table, []int) { y, l, _ := intern.Merge(api.Table{}, x); return y, l },
		func(x api.Table) (api.Table, []int) { y, l, _ := intern.Merge(x, x); return y, l },
		func(x api.Table) (api.Table, []int) { y, l, _ := intern.Merge(x, tab("d", "a")); return y, l },
		func(x api.Table) (api.Table, []int) { y, _ := intern.Keep(x, []int{0, 1, 2}); return y, nil },
	} {
		x := api.Table{Names: append(make([]string, 0, 8), "a", "B", "c1")}
		y, l := call(x)
		z, m := call(x)
		want, numbers := slices.Clone(y.Names), slices.Clone(l)
		if len(want) < 3 {
			t.Fatalf("call %d: %q", n, want)
		}
		clear(x.Names[:cap(x.Names)])
		if !same(y, want) {
			t.Errorf("call %d: the result changes with the argument: %q", n, y.Names)
		}
		clear(y.Names[:cap(y.Names)])
		clear(l[:cap(l)])
		if !same(z, want) || !slices.Equal(m, numbers) {
			t.Errorf("call %d: the results of two calls share memory: %q, %v", n, z.Names, m)
		}
	}
	names := []string{"a", "b"}
	x, _ := intern.Of(names...)
	names[0] = "c"
	if !same(x, []string{"a", "b"}) {
		t.Errorf("the table changes with the names: %q", x.Names)
	}
	which := []int{1, 0}
	y, _ := intern.Keep(x, which)
	clear(which)
	if !same(y, []string{"b", "a"}) {
		t.Errorf("the table changes with the numbers: %q", y.Names)
	}
}

// R4: lists that are nil and empty ones are equal.
func TestNilAndEmpty(t *testing.T) {
	for _, x := range []api.Table{{}, {Names: []string{}}} {
		e, at := intern.Check(x)
		y, n, f := intern.Add(x, "a")
		_, g := intern.Find(x, "a")
		_, h := intern.Name(x, 0)
		if e != api.OK || at != 0 || !same(y, []string{"a"}) || n != 0 || f != api.OK || g != api.ErrMissing || h != api.ErrRange {
			t.Errorf("%#v is not taken as empty", x)
		}
		z, l := mustMerge(t, x, x)
		if len(z.Names) != 0 || len(l) != 0 || len(mustKeep(t, shown(), []int(nil)).Names) != 0 || len(mustKeep(t, x, []int{}).Names) != 0 {
			t.Errorf("%#v is not taken as empty", x)
		}
	}
}

// Rule 5 of the language, and P1: a call depends on its arguments alone, and what one call did is not kept for the next.
func TestNothingIsKept(t *testing.T) {
	for range 3 {
		if x, n, e := intern.Intern(shown(), "d"); !same(x, []string{"a", "B", "c1", "d"}) || n != 3 || e != api.OK {
			t.Errorf("%q, %d, %v", x.Names, n, e)
		}
		if n, e := intern.Find(shown(), "d"); n != 0 || e != api.ErrMissing {
			t.Errorf("%d, %v", n, e)
		}
		if x, n, e := intern.Add(tab("d"), "a"); !same(x, []string{"d", "a"}) || n != 1 || e != api.OK {
			t.Errorf("%q, %d, %v", x.Names, n, e)
		}
	}
	// A chain of calls begins with nothing, and ends when there is no more room.
	var x api.Table
	for i, s := range numbered("n", most) {
		y, n, e := intern.Add(x, s)
		if n != i || e != api.OK || len(y.Names) != i+1 || len(x.Names) != i {
			t.Fatalf("Add(%q, %q) = %q, %d, %v", x.Names, s, y.Names, n, e)
		}
		x = y
	}
	if y, n, e := intern.Add(x, "n32"); len(y.Names) != 0 || n != 0 || e != api.ErrFull {
		t.Errorf("%q, %d, %v", y.Names, n, e)
	}
}

// P1: no arguments make a function panic, however many there are, and however long.
func TestAllArgumentsAreTaken(t *testing.T) {
	long := strings.Repeat("a", 1<<20)
	for _, x := range []api.Table{{Names: make([]string, 1<<20)}, {Names: []string{long, long}}, tab(append(numbered("n", 31), long+"-")...), shown(), tab(numbered("n", most)...)} {
		for _, s := range []string{long, long + "-", strings.Repeat("\xff", 1<<20), "\x00", "a"} {
			want, _ := verdict(x.Names)
			if want == api.OK {
				want = name.Check(s)
			}
			if n, e := intern.Find(x, s); want != api.OK && (n != 0 || e != want) {
				t.Errorf("Find of %d bytes: %d, %v; want %v", len(s), n, e, want)
			}
			if y, n, e := intern.Intern(x, s); want != api.OK && (len(y.Names) != 0 || n != 0 || e != want) {
				t.Errorf("Intern of %d bytes: %.40q, %d, %v; want %v", len(s), y.Names, n, e, want)
			}
		}
		use(x, make([]int, 1<<20))
		use(x, slices.Repeat([]int{math.MinInt, math.MaxInt, -1}, 1<<18))
	}
	if x, e := intern.Keep(shown(), make([]int, 1<<22)); len(x.Names) != 0 || e != api.ErrExists {
		t.Errorf("%q, %v", x.Names, e)
	}
	if x, e := intern.Keep(shown(), append(make([]int, 1<<22), 3)); len(x.Names) != 0 || e != api.ErrRange {
		t.Errorf("%q, %v", x.Names, e)
	}
}
