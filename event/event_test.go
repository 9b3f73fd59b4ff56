package event_test

import (
	"encoding/binary"
	"fmt"
	"math"
	"math/rand"
	"regexp"
	"slices"
	"strconv"
	"strings"
	"testing"

	"stenotype/api"
	"stenotype/event"
	"stenotype/varint"
)

const (
	// most is the greatest offset and the greatest number of a record.
	most = 1 << 40
	// longest is how many bytes the text of a list may have, and a string that is read.
	longest = 20000
)

// fields are the fields of each kind, in the order in which they are written: r is Record, a is At, s is Symbol, p is Prod, t is Text, e is Err.
var fields = map[int]string{1: "ra", 2: "spa", 3: "sta", 4: "sp", 5: "sea", 6: "rea", 7: "ea"}

// kinds are the names of the kinds.
var kinds = []string{"", "record", "enter", "token", "exit", "error", "end", "bad"}

// errnos are the names of the errors.
var errnos = strings.Fields("ok nil range form long short full missing exists order state kind name sum symbol reach yield left conflict strings empty depth token extra rule record varint grammar config pending stopped version")

// strange are numbers that no field has.
var strange = []int{math.MinInt, math.MinInt + 1, math.MinInt32, -257, -2, most + 1, math.MaxInt32 * 3000, math.MaxInt - 1, math.MaxInt}

// at returns the fault e at the offset n.
func at(e api.Errno, n int) api.Fault {
	return api.Fault{Err: e, At: n}
}

// Events of each kind.
func record(number, at int) api.Event { return api.Event{Kind: 1, Record: number, At: at} }
func enter(symbol, prod, at int) api.Event {
	return api.Event{Kind: 2, Symbol: symbol, Prod: prod, At: at}
}
func token(symbol int, text string, at int) api.Event {
	return api.Event{Kind: 3, Symbol: symbol, Text: text, At: at}
}
func exit(symbol, prod int) api.Event { return api.Event{Kind: 4, Symbol: symbol, Prod: prod} }
func fails(symbol int, e api.Errno, at int) api.Event {
	return api.Event{Kind: 5, Symbol: symbol, Err: e, At: at}
}
func end(number int, e api.Errno, at int) api.Event {
	return api.Event{Kind: 6, Record: number, Err: e, At: at}
}
func bad(e api.Errno, at int) api.Event { return api.Event{Kind: 7, Err: e, At: at} }

// isCount reports whether n is from 0 to 2^40.
func isCount(n int) bool { return n >= 0 && n <= most }

// isTerm and isNonterm report what the symbol n is.
func isTerm(n int) bool    { return n >= 0 && n <= 7 }
func isNonterm(n int) bool { return n >= 16 && n <= 23 }

// goes reports whether the error of e is one of its kind, and goes with its symbol.
func goes(e api.Event) bool {
	switch e.Kind {
	case 5:
		return e.Err == api.ErrRule && isNonterm(e.Symbol) || (e.Err == api.ErrToken || e.Err == api.ErrShort) && isTerm(e.Symbol) || e.Err == api.ErrExtra && e.Symbol == -1
	case 6:
		return e.Err == api.OK || e.Err == api.ErrRecord
	}
	return e.Err == api.ErrLong || e.Err == api.ErrShort || e.Err == api.ErrSymbol || e.Err == api.ErrVarint
}

// wantCheck returns what Check must say of e.
func wantCheck(e api.Event) api.Errno {
	all, is := fields[e.Kind]
	has := func(c byte) bool { return strings.IndexByte(all, c) >= 0 }
	fits := map[int]bool{2: isNonterm(e.Symbol), 3: isTerm(e.Symbol), 4: isNonterm(e.Symbol), 5: e.Symbol == -1 || isTerm(e.Symbol) || isNonterm(e.Symbol)}[e.Kind]
	switch {
	case !is:
		return api.ErrKind
	case has('r') && !isCount(e.Record), has('a') && !isCount(e.At):
		return api.ErrRange
	case has('s') && !fits:
		return api.ErrSymbol
	case has('p') && (e.Prod < 0 || e.Prod > 23):
		return api.ErrRange
	case has('t') && len(e.Text) > 24:
		return api.ErrLong
	case has('e') && !goes(e):
		return api.ErrKind
	case !has('r') && e.Record != 0, !has('a') && e.At != 0, !has('s') && e.Symbol != 0, !has('p') && e.Prod != 0, !has('t') && e.Text != "", !has('e') && e.Err != 0:
		return api.ErrForm
	}
	return api.OK
}

// wantBytes returns the bytes of the right event e.
func wantBytes(e api.Event) string {
	b := []byte{byte(e.Kind)}
	for _, c := range fields[e.Kind] {
		switch c {
		case 'r':
			b = binary.AppendUvarint(b, uint64(e.Record))
		case 'a':
			b = binary.AppendUvarint(b, uint64(e.At))
		case 's':
			b = append(b, byte(e.Symbol+1))
		case 'p':
			b = append(b, byte(e.Prod))
		case 't':
			b = append(append(b, byte(len(e.Text))), e.Text...)
		case 'e':
			b = append(b, byte(e.Err))
		}
	}
	return string(b)
}

// wantText returns the text of the right event e.
func wantText(e api.Event) string {
	hex := fmt.Sprintf("%x", e.Text)
	if hex == "" {
		hex = "-"
	}
	words := map[rune]any{'r': e.Record, 'a': e.At, 's': e.Symbol, 'p': e.Prod, 't': hex, 'e': errnos[e.Err]}
	s := kinds[e.Kind]
	for _, c := range fields[e.Kind] {
		s += fmt.Sprintf(" %v", words[c])
	}
	return s
}

// wantField reads the field c of e from s at the offset n, and returns the offset behind it, or the fault.
func wantField(e *api.Event, c rune, s string, n int) (int, api.Fault) {
	x, next, f := varint.Read(s, n)
	if f.Err != api.OK {
		return 0, f
	}
	if c == 't' {
		if x > 24 {
			return 0, at(api.ErrLong, n)
		}
		if x > uint64(len(s)-next) {
			return 0, at(api.ErrShort, next)
		}
		e.Text = s[next:][:x]
		return next + int(x), api.Fault{}
	}
	if x > map[rune]uint64{'k': 7, 'r': most, 'a': most, 's': 24, 'p': 23, 'e': 31}[c] || c == 'k' && x == 0 {
		return 0, at(api.ErrRange, n)
	}
	switch c {
	case 'k':
		e.Kind = int(x)
	case 'r':
		e.Record = int(x)
	case 'a':
		e.At = int(x)
	case 's':
		e.Symbol = int(x) - 1
	case 'p':
		e.Prod = int(x)
	case 'e':
		e.Err = api.Errno(x)
	}
	return next, api.Fault{}
}

// wantRead returns what Read must return for s and n.
func wantRead(s string, n int) (api.Event, int, api.Fault) {
	if n < 0 || n > len(s) {
		return api.Event{}, 0, at(api.ErrRange, 0)
	}
	if len(s) > longest {
		return api.Event{}, 0, at(api.ErrState, 0)
	}
	var e api.Event
	next, f := wantField(&e, 'k', s, n)
	for _, c := range fields[e.Kind] {
		if f.Err == api.OK {
			next, f = wantField(&e, c, s, next)
		}
	}
	if f.Err == api.OK {
		f = at(wantCheck(e), n)
	}
	if f.Err != api.OK {
		return api.Event{}, 0, f
	}
	return e, next, api.Fault{}
}

// line says what a line looks like that is the text of an event: a number is written without needless zeros, a text as small digits.
var line = regexp.MustCompile(`^(?:(record) (N) (N)|(enter) (N) (N) (N)|(token) (N) (-|(?:[0-9a-f]{2}){1,24}) (N)|(exit) (N) (N)|(error) (-1|N) ([a-z]+) (N)|(end) (N) ([a-z]+) (N)|(bad) ([a-z]+) (N))$`)

func init() {
	line = regexp.MustCompile(strings.ReplaceAll(line.String(), "N", "0|[1-9][0-9]*"))
}

// wantLine returns the event that s is the text of, and whether there is one.
func wantLine(s string) (api.Event, bool) {
	words := line.FindStringSubmatch(s)
	if words == nil {
		return api.Event{}, false
	}
	words = slices.DeleteFunc(words[1:], func(s string) bool { return s == "" })
	e := api.Event{Kind: slices.Index(kinds, words[0])}
	for i, c := range fields[e.Kind] {
		n, err := strconv.Atoi(words[i+1])
		if c != 't' && c != 'e' && err != nil {
			return api.Event{}, false
		}
		switch c {
		case 'r':
			e.Record = n
		case 'a':
			e.At = n
		case 's':
			e.Symbol = n
		case 'p':
			e.Prod = n
		case 't':
			fmt.Sscanf(words[i+1], "%x", &e.Text)
		case 'e':
			e.Err = api.Errno(slices.Index(errnos, words[i+1]))
		}
	}
	return e, wantCheck(e) == api.OK
}

// wantEvents returns what Events must return for s.
func wantEvents(s string) ([]api.Event, api.Fault) {
	if len(s) > longest {
		return nil, at(api.ErrLong, longest)
	}
	var l []api.Event
	n := 0
	for _, s := range strings.SplitAfter(s, "\n") {
		if s == "" {
			continue
		}
		e, is := wantLine(strings.TrimSuffix(s, "\n"))
		if !is || !strings.HasSuffix(s, "\n") {
			return nil, at(api.ErrForm, n)
		}
		l = append(l, e)
		n += len(s)
	}
	return l, api.Fault{}
}

// counts, texts: values of fields at the edges.
func counts() []int { return []int{0, 1, 127, 128, 300, 16383, 16384, 1<<32 - 1, most - 1, most} }
func texts() []string {
	l := []string{"", " ", "\n", "-", "ab", "\x00\xff", "00", strings.Repeat("z", 23), strings.Repeat("\xfe", 24)}
	for i := range 256 {
		l = append(l, string([]byte{byte(i)}))
	}
	return l
}

// right returns right events: all that differ in symbols, productions and errors, and those with values at the edges.
func right() []api.Event {
	var l []api.Event
	for _, n := range counts() {
		for _, m := range counts() {
			l = append(l, record(n, m), end(n, api.OK, m), end(n, api.ErrRecord, m))
		}
		for _, e := range []api.Errno{api.ErrLong, api.ErrShort, api.ErrSymbol, api.ErrVarint} {
			l = append(l, bad(e, n))
		}
		for i := range 8 {
			for _, s := range texts() {
				l = append(l, token(i, s, n))
			}
			for p := range 24 {
				l = append(l, enter(16+i, p, n))
			}
			l = append(l, fails(i, api.ErrToken, n), fails(i, api.ErrShort, n), fails(16+i, api.ErrRule, n))
		}
		l = append(l, fails(-1, api.ErrExtra, n))
	}
	for i := range 8 {
		for p := range 24 {
			l = append(l, exit(16+i, p))
		}
	}
	return l
}

// random returns a random right event.
func random(r *rand.Rand) api.Event {
	count := func() int { return r.Intn(most+1) >> r.Intn(41) }
	text := make([]byte, r.Intn(25))
	r.Read(text)
	i, p := r.Intn(8), r.Intn(24)
	all := []api.Event{
		record(count(), count()), enter(16+i, p, count()), token(i, string(text), count()), exit(16+i, p),
		fails(-1, api.ErrExtra, count()), fails(i, api.ErrToken, count()), fails(i, api.ErrShort, count()), fails(16+i, api.ErrRule, count()),
		end(count(), api.OK, count()), end(count(), api.ErrRecord, count()),
		bad([]api.Errno{api.ErrLong, api.ErrShort, api.ErrSymbol, api.ErrVarint}[r.Intn(4)], count()),
	}
	return all[r.Intn(len(all))]
}

// randoms returns a list of at most n random right events.
func randoms(r *rand.Rand, n int) []api.Event {
	var l []api.Event
	for range r.Intn(n + 1) {
		l = append(l, random(r))
	}
	return l
}

// lines returns the text of the right events of l.
func lines(l []api.Event) string {
	s := ""
	for _, e := range l {
		s += wantText(e) + "\n"
	}
	return s
}

// holdCheck holds Check, and what Bytes, Text and List say with it, against the table.
func holdCheck(t *testing.T, e api.Event) api.Errno {
	t.Helper()
	want := wantCheck(e)
	if got := event.Check(e); got != want {
		t.Fatalf("Check(%+v) is %v, not %v", e, got, want)
	}
	return want
}

// holdWritten holds Bytes, Text and List of one event against the table, be it right or not.
func holdWritten(t *testing.T, e api.Event) {
	t.Helper()
	want := wantCheck(e)
	b, s, l := "", "", ""
	if want == api.OK {
		b, s, l = wantBytes(e), wantText(e), wantText(e)+"\n"
	}
	if got, err := event.Bytes(e); got != b || err != want {
		t.Fatalf("Bytes(%+v) is %q and %v, not %q and %v", e, got, err, b, want)
	}
	if got, err := event.Text(e); got != s || err != want {
		t.Fatalf("Text(%+v) is %q and %v, not %q and %v", e, got, err, s, want)
	}
	if got, err := event.List([]api.Event{e}); got != l || err != want {
		t.Fatalf("List of %+v is %q and %v, not %q and %v", e, got, err, l, want)
	}
}

// holdRead holds Read, and Parse for the offset 0, against the second way.
func holdRead(t *testing.T, s string, n int) api.Fault {
	t.Helper()
	e, next, f := wantRead(s, n)
	if gotE, gotNext, gotF := event.Read(s, n); gotE != e || gotNext != next || gotF != f {
		t.Fatalf("Read(% x, %d) is %+v, %d and %v, not %+v, %d and %v", s, n, gotE, gotNext, gotF, e, next, f)
	}
	if n != 0 {
		return f
	}
	if f.Err == api.OK && next < len(s) {
		e, f = api.Event{}, at(api.ErrLong, next)
	}
	if gotE, gotF := event.Parse(s); gotE != e || gotF != f {
		t.Fatalf("Parse(% x) is %+v and %v, not %+v and %v", s, gotE, gotF, e, f)
	}
	return f
}

// holdEvents holds Events against the second way.
func holdEvents(t *testing.T, s string) api.Fault {
	t.Helper()
	l, f := wantEvents(s)
	if gotL, gotF := event.Events(s); !slices.Equal(gotL, l) || gotF != f {
		t.Fatalf("Events(%.200q) is %+v and %v, not %+v and %v", s, gotL, gotF, l, f)
	}
	return f
}

// P22.1, P22.2, P22.3: the rows of the first table of the Examples.
func TestTable(t *testing.T) {
	for _, c := range []struct {
		e           api.Event
		bytes, text string
	}{
		{record(3, 17), "\x01\x03\x11", "record 3 17"},
		{enter(16, 2, 0), "\x02\x11\x02\x00", "enter 16 2 0"},
		{token(1, "ab", 5), "\x03\x02\x02\x61\x62\x05", "token 1 6162 5"},
		{token(0, "", 0), "\x03\x01\x00\x00", "token 0 - 0"},
		{exit(16, 2), "\x04\x11\x02", "exit 16 2"},
		{fails(-1, api.ErrExtra, 9), "\x05\x00\x17\x09", "error -1 extra 9"},
		{end(3, api.OK, 20), "\x06\x03\x00\x14", "end 3 ok 20"},
		{bad(api.ErrShort, 4), "\x07\x05\x04", "bad short 4"},
		{fails(3, api.ErrToken, 300), "\x05\x04\x16\xac\x02", "error 3 token 300"},
		{fails(23, api.ErrRule, 0), "\x05\x18\x18\x00", "error 23 rule 0"},
		{end(0, api.ErrRecord, most), "\x06\x00\x19\x80\x80\x80\x80\x80\x20", "end 0 record 1099511627776"},
	} {
		if e := event.Check(c.e); e != api.OK {
			t.Errorf("%+v: %v", c.e, e)
		}
		if s, e := event.Bytes(c.e); s != c.bytes || e != api.OK {
			t.Errorf("%+v: % x %v", c.e, s, e)
		}
		if s, e := event.Text(c.e); s != c.text || e != api.OK {
			t.Errorf("%+v: %q %v", c.e, s, e)
		}
		if e, f := event.Parse(c.bytes); e != c.e || f != (api.Fault{}) {
			t.Errorf("% x: %+v %v", c.bytes, e, f)
		}
		if e, next, f := event.Read(c.bytes, 0); e != c.e || next != len(c.bytes) || f != (api.Fault{}) {
			t.Errorf("% x: %+v %d %v", c.bytes, e, next, f)
		}
		if l, f := event.Events(c.text + "\n"); !slices.Equal(l, []api.Event{c.e}) || f != (api.Fault{}) {
			t.Errorf("%q: %+v %v", c.text, l, f)
		}
	}
}

// P22.1, P22.2: the rows of the second table of the Examples.
func TestCalls(t *testing.T) {
	for _, c := range []struct {
		e    api.Event
		want api.Errno
	}{
		{api.Event{}, api.ErrKind},
		{api.Event{Kind: 1, Prod: 1}, api.ErrForm},
		{enter(3, 0, 0), api.ErrSymbol},
		{fails(3, api.ErrExtra, 0), api.ErrKind},
	} {
		if got := event.Check(c.e); got != c.want {
			t.Errorf("%+v: %v", c.e, got)
		}
	}
	for _, c := range []struct {
		s    string
		want api.Fault
	}{
		{"\x01\x03", at(api.ErrShort, 2)},
		{"\x01\x03\x11\x00", at(api.ErrLong, 3)},
		{"\x08", at(api.ErrRange, 0)},
	} {
		if e, f := event.Parse(c.s); e != (api.Event{}) || f != c.want {
			t.Errorf("% x: %+v %v", c.s, e, f)
		}
	}
}

// P22.1: each error alone.
func TestEachError(t *testing.T) {
	long := strings.Repeat("a", 25)
	for _, c := range []struct {
		e    api.Event
		want api.Errno
	}{
		{api.Event{Kind: 8}, api.ErrKind}, {api.Event{Kind: -1}, api.ErrKind},
		{record(-1, 0), api.ErrRange}, {record(most+1, 0), api.ErrRange}, {record(0, -1), api.ErrRange}, {record(0, most+1), api.ErrRange},
		{enter(16, 0, -1), api.ErrRange}, {token(0, "", most+1), api.ErrRange}, {fails(0, api.ErrToken, -1), api.ErrRange}, {end(-1, 0, 0), api.ErrRange}, {end(0, 0, most+1), api.ErrRange}, {bad(api.ErrLong, -1), api.ErrRange},
		{enter(15, 0, 0), api.ErrSymbol}, {enter(24, 0, 0), api.ErrSymbol}, {enter(-1, 0, 0), api.ErrSymbol}, {exit(0, 0), api.ErrSymbol},
		{token(8, "", 0), api.ErrSymbol}, {token(-1, "", 0), api.ErrSymbol}, {token(16, "", 0), api.ErrSymbol},
		{fails(-2, api.ErrExtra, 0), api.ErrSymbol}, {fails(8, api.ErrToken, 0), api.ErrSymbol}, {fails(15, api.ErrRule, 0), api.ErrSymbol}, {fails(24, api.ErrRule, 0), api.ErrSymbol},
		{enter(16, -1, 0), api.ErrRange}, {enter(16, 24, 0), api.ErrRange}, {exit(16, -1), api.ErrRange}, {exit(16, 24), api.ErrRange},
		{token(0, long, 0), api.ErrLong},
		{fails(0, api.OK, 0), api.ErrKind}, {fails(0, api.ErrRule, 0), api.ErrKind}, {fails(0, api.ErrExtra, 0), api.ErrKind}, {fails(16, api.ErrToken, 0), api.ErrKind}, {fails(16, api.ErrShort, 0), api.ErrKind}, {fails(16, api.ErrExtra, 0), api.ErrKind}, {fails(-1, api.ErrRule, 0), api.ErrKind}, {fails(-1, api.ErrToken, 0), api.ErrKind}, {fails(-1, api.ErrShort, 0), api.ErrKind},
		{end(0, api.ErrShort, 0), api.ErrKind}, {end(0, -1, 0), api.ErrKind}, {bad(api.OK, 0), api.ErrKind}, {bad(api.ErrRecord, 0), api.ErrKind}, {bad(32, 0), api.ErrKind},
		{api.Event{Kind: 1, Symbol: 1}, api.ErrForm}, {api.Event{Kind: 1, Symbol: -1}, api.ErrForm}, {api.Event{Kind: 1, Text: long}, api.ErrForm}, {api.Event{Kind: 1, Err: 1}, api.ErrForm}, {api.Event{Kind: 1, Err: -5}, api.ErrForm},
		{api.Event{Kind: 2, Symbol: 16, Record: 1}, api.ErrForm}, {api.Event{Kind: 2, Symbol: 16, Text: "a"}, api.ErrForm}, {api.Event{Kind: 3, Prod: 99}, api.ErrForm}, {api.Event{Kind: 3, Record: -1}, api.ErrForm},
		{api.Event{Kind: 4, Symbol: 16, At: 1}, api.ErrForm}, {api.Event{Kind: 4, Symbol: 16, At: -1}, api.ErrForm}, {api.Event{Kind: 5, Symbol: -1, Err: api.ErrExtra, Prod: 1}, api.ErrForm}, {api.Event{Kind: 6, Symbol: 16}, api.ErrForm}, {api.Event{Kind: 7, Err: api.ErrLong, Record: most + 1}, api.ErrForm},
	} {
		if got := holdCheck(t, c.e); got != c.want {
			t.Errorf("%+v: %v", c.e, got)
		}
		holdWritten(t, c.e)
	}
}

// P22.1, R1, R5, P1: events with values at the edges in all fields, so that each two errors meet; the first one is told.
func TestCheckAll(t *testing.T) {
	seen := map[api.Errno]int{}
	symbols := []int{math.MinInt, -2, -1, 0, 7, 8, 15, 16, 23, 24, math.MaxInt}
	few := []int{-1, 0, 23, 24}
	numbers := []int{-1, 0, most, most + 1}
	words := []string{"", "a", strings.Repeat("b", 24), strings.Repeat("b", 25)}
	codes := []api.Errno{-1, api.OK, api.ErrLong, api.ErrShort, api.ErrSymbol, api.ErrToken, api.ErrExtra, api.ErrRule, api.ErrRecord, api.ErrVarint, 32}
	for kind := -1; kind <= 9; kind++ {
		for _, symbol := range symbols {
			for _, prod := range few {
				for _, n := range numbers {
					for _, m := range numbers {
						for _, text := range words {
							for _, code := range codes {
								e := api.Event{Kind: kind, Symbol: symbol, Prod: prod, Record: n, At: m, Text: text, Err: code}
								seen[holdCheck(t, e)]++
							}
						}
					}
				}
			}
		}
	}
	for _, e := range []api.Errno{api.OK, api.ErrKind, api.ErrRange, api.ErrSymbol, api.ErrLong, api.ErrForm} {
		if seen[e] < 20 {
			t.Errorf("%v: only %d times", e, seen[e])
		}
	}
}

// P22.1: each error with each symbol, for each kind; nothing else is right.
func TestPairs(t *testing.T) {
	count := map[int]int{}
	for kind := range kinds {
		for symbol := -3; symbol < 30; symbol++ {
			for code := api.Errno(-2); code < 40; code++ {
				e := api.Event{Kind: kind, Symbol: symbol, Err: code}
				if holdCheck(t, e) == api.OK {
					count[kind]++
				}
				holdWritten(t, e)
			}
		}
	}
	for kind, want := range []int{0, 1, 8, 8, 8, 25, 2, 4} {
		if count[kind] != want {
			t.Errorf("%s: %d are right, not %d", kinds[kind], count[kind], want)
		}
	}
}

// P22.1, R5: a field has each number, and each length, that it may have, and no other one.
func TestEdges(t *testing.T) {
	for _, e := range []api.Event{record(0, 0), enter(16, 0, 0), token(0, "", 0), exit(16, 0), fails(-1, api.ErrExtra, 0), end(0, api.OK, 0), bad(api.ErrLong, 0)} {
		numbers := slices.Concat(strange, counts())
		for i := -3; i < 40; i++ {
			numbers = append(numbers, i)
		}
		for _, n := range numbers {
			for _, set := range []func(e *api.Event){
				func(e *api.Event) { e.Kind = n },
				func(e *api.Event) { e.Symbol = n },
				func(e *api.Event) { e.Prod = n },
				func(e *api.Event) { e.Record = n },
				func(e *api.Event) { e.At = n },
				func(e *api.Event) { e.Err = api.Errno(n) },
			} {
				x := e
				set(&x)
				holdCheck(t, x)
				holdWritten(t, x)
			}
		}
		for n := range 60 {
			e.Text = strings.Repeat("\n", n)
			holdCheck(t, e)
			holdWritten(t, e)
		}
		e.Text = strings.Repeat("a", 1<<20)
		holdCheck(t, e)
		holdWritten(t, e)
	}
}

// P22.1: the names of the kinds; no other kind has one.
func TestName(t *testing.T) {
	for i := 1; i <= 7; i++ {
		if s, e := event.Name(i); s != kinds[i] || e != api.OK {
			t.Errorf("%d: %q %v", i, s, e)
		}
	}
	for _, i := range append(strange, -1, 0, 8, 9, 256, 257) {
		if s, e := event.Name(i); s != "" || e != api.ErrKind {
			t.Errorf("%d: %q %v", i, s, e)
		}
	}
}

// P22.2, P22.3, P22.4, P22.5: right events are written as the table says, and read back, whatever follows and whatever comes before.
func TestBothWays(t *testing.T) {
	for i, e := range right() {
		holdCheck(t, e)
		holdWritten(t, e)
		s, _ := event.Bytes(e)
		if x, f := event.Parse(s); x != e || f != (api.Fault{}) {
			t.Fatalf("%+v: %+v %v", e, x, f)
		}
		for _, behind := range []string{"", "\x00", "\xff\xff", s} {
			before := strings.Repeat("\x80", i%3)
			if x, next, f := event.Read(before+s+behind, len(before)); x != e || next != len(before)+len(s) || f != (api.Fault{}) {
				t.Fatalf("%+v before % x: %+v %d %v", e, behind, x, next, f)
			}
			if f := holdRead(t, s+behind, 0); behind != "" && f != at(api.ErrLong, len(s)) {
				t.Fatalf("%+v before % x: %v", e, behind, f)
			}
		}
		if l, f := event.Events(wantText(e) + "\n"); !slices.Equal(l, []api.Event{e}) || f != (api.Fault{}) {
			t.Fatalf("%+v: %+v %v", e, l, f)
		}
	}
}

// P22.6: right events with the same bytes are equal, and so are those with the same text.
func TestApart(t *testing.T) {
	bytes, words := map[string]api.Event{}, map[string]api.Event{}
	l := right()
	for _, e := range l {
		s, _ := event.Bytes(e)
		w, _ := event.Text(e)
		if x, is := bytes[s]; is && x != e {
			t.Fatalf("%+v and %+v have the bytes % x", x, e, s)
		}
		if x, is := words[w]; is && x != e {
			t.Fatalf("%+v and %+v have the text %q", x, e, w)
		}
		bytes[s], words[w] = e, e
	}
	if len(bytes) < 20000 || len(words) != len(bytes) {
		t.Errorf("%d and %d", len(bytes), len(words))
	}
}

// P22.8: bytes that are cut off are refused: where they end, or where the text begins if it is not whole.
func TestCut(t *testing.T) {
	r := rand.New(rand.NewSource(1))
	for i, e := range append(right()[:3000], token(7, strings.Repeat("q", 24), most)) {
		s := wantBytes(e)
		for n := range len(s) {
			f := holdRead(t, s[:n], 0)
			where := n
			if e.Kind == 3 && n > 2 && n < 3+len(e.Text) {
				where = 3
			}
			if f != at(api.ErrShort, where) {
				t.Fatalf("% x cut to %d bytes: %v", s, n, f)
			}
			before := strings.Repeat("\x01", 1+i%3)
			holdRead(t, before+s[:n], len(before))
		}
		// A byte that is left out, or changed, leads to the fault that the second way finds, or to another event.
		k := r.Intn(len(s))
		holdRead(t, s[:k]+s[k+1:], 0)
		holdRead(t, s[:k]+string([]byte{byte(r.Intn(256))})+s[k+1:], 0)
	}
}

// P22.2: the faults of codec, each with its offset, and then the error of Check where the event begins.
func TestFaults(t *testing.T) {
	for _, c := range []struct {
		s    string
		want api.Fault
	}{
		{"", at(api.ErrShort, 0)}, {"\x00", at(api.ErrRange, 0)}, {"\x80", at(api.ErrShort, 1)}, {"\x81\x00", at(api.ErrVarint, 1)}, {"\x01", at(api.ErrShort, 1)},
		{"\x01\x80\x80\x80\x80\x80\x20\x00", api.Fault{}}, {"\x01\x81\x80\x80\x80\x80\x20\x00", at(api.ErrRange, 1)}, {"\x01\x00\x81\x80\x80\x80\x80\x20", at(api.ErrRange, 2)},
		{"\x01\x80\x00\x00", at(api.ErrVarint, 2)}, {"\x02\x18\x17\x00", api.Fault{}}, {"\x02\x19\x00\x00", at(api.ErrRange, 1)}, {"\x02\x11\x18\x00", at(api.ErrRange, 2)}, {"\x02\x11\x00", at(api.ErrShort, 3)},
		{"\x02\x10\x00\x00", at(api.ErrSymbol, 0)}, {"\x02\x00\x00\x00", at(api.ErrSymbol, 0)}, {"\x04\x01\x00", at(api.ErrSymbol, 0)},
		{"\x03\x00\x00\x00", at(api.ErrSymbol, 0)}, {"\x03\x09\x00\x00", at(api.ErrSymbol, 0)}, {"\x03\x01\x19" + strings.Repeat("a", 30), at(api.ErrLong, 2)}, {"\x03\x01\x02a", at(api.ErrShort, 3)}, {"\x03\x01\x01a", at(api.ErrShort, 4)},
		{"\x05\x00\x20\x00", at(api.ErrRange, 2)}, {"\x05\x00\x1f\x00", at(api.ErrKind, 0)}, {"\x05\x01\x17\x00", at(api.ErrKind, 0)}, {"\x05\x10\x17\x00", at(api.ErrSymbol, 0)}, {"\x05\x10\x20\x00", at(api.ErrRange, 2)},
		{"\x06\x00\x18\x00", at(api.ErrKind, 0)}, {"\x06\x00\x20\x00", at(api.ErrRange, 2)}, {"\x07\x00\x00", at(api.ErrKind, 0)}, {"\x07\x20", at(api.ErrRange, 1)}, {"\x07\x1f", at(api.ErrShort, 2)},
		// What follows does not matter where the event is wrong.
		{"\x02\x10\x00\x00\x00", at(api.ErrSymbol, 0)},
	} {
		if f := holdRead(t, c.s, 0); f != c.want {
			t.Errorf("% x: %v", c.s, f)
		}
		f := holdRead(t, "abc"+c.s, 3)
		if c.want.Err != api.OK {
			c.want.At += 3
		}
		if f != c.want {
			t.Errorf("% x at 3: %v", c.s, f)
		}
	}
}

// P22.2, R1, R5: the offset is asked first, then the length of the string, then the event.
func TestOffsets(t *testing.T) {
	s := "\x01\x03\x11"
	for _, n := range append(strange, -1, 4, 5) {
		for _, s := range []string{s, ""} {
			if n == 0 {
				continue
			}
			if f := holdRead(t, s, n); f != at(api.ErrRange, 0) {
				t.Errorf("%q at %d: %v", s, n, f)
			}
		}
	}
	if f := holdRead(t, s, 3); f != at(api.ErrShort, 3) {
		t.Error(f)
	}
	full := strings.Repeat("\x00", longest-3) + s
	if f := holdRead(t, full, longest-3); f != (api.Fault{}) {
		t.Error(f)
	}
	if f := holdRead(t, s+full[3:], 0); f != at(api.ErrLong, 3) {
		t.Error(f)
	}
	over := s + full
	for _, n := range []int{0, 1, longest, len(over) - 3, len(over)} {
		if f := holdRead(t, over, n); f != at(api.ErrState, 0) {
			t.Errorf("%d: %v", n, f)
		}
	}
	for _, n := range []int{-1, len(over) + 1, math.MaxInt} {
		if f := holdRead(t, over, n); f != at(api.ErrRange, 0) {
			t.Errorf("%d: %v", n, f)
		}
	}
}

// P22.2, P22.5, P1: all short strings, and strings of bytes that matter; what is read has these bytes.
func TestReadAll(t *testing.T) {
	bytes := "\x00\x01\x02\x03\x04\x05\x06\x07\x08\x11\x16\x17\x18\x19\x1f\x20\x80\xff"
	faults := map[api.Errno]int{}
	var all func(s string, room int)
	all = func(s string, room int) {
		for n := range len(s) + 1 {
			f := holdRead(t, s, n)
			faults[f.Err]++
			if f.Err == api.OK {
				e, next, _ := event.Read(s, n)
				if b, err := event.Bytes(e); b != s[n:next] || err != api.OK {
					t.Fatalf("% x at %d: % x %v", s, n, b, err)
				}
			}
		}
		if room > 0 {
			for i := range len(bytes) {
				all(s+bytes[i:i+1], room-1)
			}
		}
	}
	all("", 4)
	for i := range 1 << 16 {
		holdRead(t, string([]byte{byte(i), byte(i >> 8)}), 0)
	}
	for _, e := range []api.Errno{api.OK, api.ErrShort, api.ErrRange, api.ErrLong, api.ErrSymbol, api.ErrKind, api.ErrVarint} {
		if faults[e] < 10 {
			t.Errorf("%v: only %d times", e, faults[e])
		}
	}
}

// P22.4, P22.5: events that stand one behind the other are read one by one.
func TestRows(t *testing.T) {
	r := rand.New(rand.NewSource(2))
	for range 500 {
		l := randoms(r, 40)
		s := ""
		for _, e := range l {
			b, _ := event.Bytes(e)
			s += b
		}
		n := 0
		for i, e := range l {
			x, next, f := event.Read(s, n)
			if x != e || f != (api.Fault{}) || next <= n {
				t.Fatalf("%d of %+v: %+v %d %v", i, l, x, next, f)
			}
			n = next
		}
		if n != len(s) {
			t.Fatalf("%+v: %d of %d bytes", l, n, len(s))
		}
		if len(s) > 0 {
			holdRead(t, s, r.Intn(len(s)))
		}
	}
}

// P22.3, P22.7: a list is read from its text, and the text of two lists is those of both.
func TestLists(t *testing.T) {
	r := rand.New(rand.NewSource(3))
	for range 2000 {
		a, b := randoms(r, 12), randoms(r, 12)
		s, e := event.List(a)
		if s != lines(a) || e != api.OK {
			t.Fatalf("%+v: %q %v", a, s, e)
		}
		if l, f := event.Events(s); !slices.Equal(l, a) || f != (api.Fault{}) {
			t.Fatalf("%q: %+v %v", s, l, f)
		}
		u, _ := event.List(b)
		if w, e := event.List(slices.Concat(a, b)); w != s+u || e != api.OK {
			t.Fatalf("%+v %+v: %q %v", a, b, w, e)
		}
		if l, f := event.Events(s + u); !slices.Equal(l, slices.Concat(a, b)) || f != (api.Fault{}) {
			t.Fatalf("%q: %+v %v", s+u, l, f)
		}
	}
	for _, l := range [][]api.Event{nil, {}} {
		if s, e := event.List(l); s != "" || e != api.OK {
			t.Errorf("%q %v", s, e)
		}
	}
	if l, f := event.Events(""); len(l) != 0 || f != (api.Fault{}) {
		t.Errorf("%+v %v", l, f)
	}
}

// P22.3, R1: List tells the error of the first event that has one, and only then that the text is too long.
func TestListErrors(t *testing.T) {
	one := exit(16, 2)
	wrong := []api.Event{{}, enter(3, 0, 0), {Kind: 1, Prod: 1}, token(0, strings.Repeat("a", 25), 0), record(-1, 0)}
	for _, a := range wrong {
		for _, b := range wrong {
			if s, e := event.List([]api.Event{one, a, one, b}); s != "" || e != wantCheck(a) {
				t.Errorf("%+v %+v: %q %v", a, b, s, e)
			}
		}
		if s, e := event.List(append(slices.Repeat([]api.Event{one}, 5000), a)); s != "" || e != wantCheck(a) {
			t.Errorf("long, %+v: %q %v", a, s, e)
		}
	}
	full := slices.Repeat([]api.Event{one}, longest/10)
	if s, e := event.List(full); s != strings.Repeat("exit 16 2\n", longest/10) || e != api.OK {
		t.Errorf("%d %v", len(s), e)
	}
	for _, last := range []api.Event{exit(16, 22), enter(16, 2, 0)} {
		full[7] = last
		if s, e := event.List(full); s != "" || e != api.ErrLong {
			t.Errorf("%+v: %d %v", last, len(s), e)
		}
	}
	if s, e := event.List(slices.Repeat(full, 3)); s != "" || e != api.ErrLong {
		t.Errorf("%d %v", len(s), e)
	}
}

// P22.3, R1: a text that is too long is refused before its lines are; one that is as long as it may be is read.
func TestLongTexts(t *testing.T) {
	full := strings.Repeat("exit 16 2\n", longest/10)
	if l, f := event.Events(full); !slices.Equal(l, slices.Repeat([]api.Event{exit(16, 2)}, longest/10)) || f != (api.Fault{}) {
		t.Errorf("%d %v", len(l), f)
	}
	for _, s := range []string{full + "x", full + "\n", full + full, "x" + full, "exit 16 22\n" + full[10:], strings.Repeat("\n", longest+1), strings.Repeat("x", 1<<20)} {
		if f := holdEvents(t, s); f != at(api.ErrLong, longest) {
			t.Errorf("%.20q of %d bytes: %v", s, len(s), f)
		}
	}
	for s, n := range map[string]int{"exit 16 2" + full[10:]: 0, full[:longest-1]: longest - 10, strings.Repeat("x", longest): 0, strings.Repeat(" ", longest): 0, "exit 16 2" + strings.Repeat(" ", longest-10) + "\n": 0, "record 0 " + strings.Repeat("9", longest-10) + "\n": 0, "token 0 " + strings.Repeat("ab", longest/2-6) + " 0\n": 0, full[:longest-10] + "exit 16 2 ": longest - 10, full[:longest-20] + "\n": longest - 20} {
		if f := holdEvents(t, s); f != at(api.ErrForm, n) {
			t.Errorf("%.20q of %d bytes: %v", s, len(s), f)
		}
	}
}

// P22.3: lines that look like the text of an event, and are none.
func TestWrongLines(t *testing.T) {
	for _, s := range []string{
		"", " ", "-", "exit", "exit 16", "exit 16 2 0", "exit 16 2 ", " exit 16 2", "exit  16 2", "exit 16  2", "exit\t16 2", "exit 16 2\r", "exit 16 2\x00", "Exit 16 2", "EXIT 16 2", "exits 16 2", "exi 16 2", "4 16 2",
		"exit 016 2", "exit +16 2", "exit 16 02", "exit 16 -0", "exit 16 +2", "exit 16 2.0", "exit 16 0x2", "exit 1_6 2", "exit 16 24", "exit 15 2", "exit 24 2", "exit 0 2", "exit -1 2", "exit 16 -1", "exit \u0661\u0666 2",
		"record 1099511627777 0", "record 0 1099511627777", "record -1 0", "record 0 -1", "record 18446744073709551616 0", "record 9223372036854775808 0", "record 0 18446744073709551617", "record 0", "record", "record 0 0 0", "record 00 0", "record - 0", "record  0",
		"enter 3 0 0", "enter 16 0", "enter 16 0 0 0", "enter 16 24 0", "enter 16 0 1099511627777",
		"token 0 0", "token 0  0", "token 0 a 0", "token 0 6A 0", "token 0 6g 0", "token 0 g6 0", "token 0 -- 0", "token 0 6162- 0", "token 0 0x61 0", "token 0 616 0", "token 0 +1 0", "token 0 " + strings.Repeat("61", 25) + " 0", "token 8 - 0", "token -1 - 0", "token 16 - 0", "token 0 - -1", "token 00 - 0", "token 0 ok 0", "token 0 - 00", "token 0 61 62 0",
		"error 0 ok 0", "error -1 rule 0", "error -1 token 0", "error 0 rule 0", "error 16 token 0", "error 0 extra 0", "error 0 22 0", "error 0 Token 0", "error 0 toke 0", "error 0 tokens 0", "error -0 token 0", "error --1 extra 0", "error 8 token 0", "error -2 extra 0", "error - extra 0", "error 0 unknown 0", "error 0  0", "error 16 rule", "error 16 rule 0 0",
		"end 0 rule 0", "end 0 0", "end 0 0 0", "end 0 25 0", "end 0  0", "end -1 ok 0", "end 0 ok -1", "end 0 - 0", "end 0 unknown 0", "end 0 nil 0",
		"bad ok 0", "bad 0", "bad rule 0", "bad long", "bad long 0 0", "bad long -1", "bad unknown 0", "bad  0", "bad 4 0", "bad long 01",
		"unknown", "0", "ok",
	} {
		for _, before := range []string{"", "record 3 17\n", "token 0 - 0\nbad long 0\n"} {
			for _, behind := range []string{"", "exit 16 2\n", "\n", "x"} {
				if f := holdEvents(t, before+s+"\n"+behind); f != at(api.ErrForm, len(before)) {
					t.Errorf("%q: %v", before+s+"\n"+behind, f)
				}
			}
		}
	}
	for _, s := range []string{"exit 16 2", "exit 16 2\nexit 16 2", "exit 16 2\nx", "x", "exit 16 2\n "} {
		if f := holdEvents(t, s); f != at(api.ErrForm, strings.LastIndex(s, "\n")+1) {
			t.Errorf("%q: %v", s, f)
		}
	}
}

// P22.3, P22.6: each single change of a text leads to what the second way finds, and what is read from it has this text.
func TestChangedTexts(t *testing.T) {
	bytes := "\n \r\t-+_.019afgkortAF\x00\xff"
	good, wrong := 0, 0
	hold := func(s string) {
		if f := holdEvents(t, s); f.Err != api.OK {
			wrong++
			return
		}
		good++
		l, _ := event.Events(s)
		if w, e := event.List(l); w != s || e != api.OK {
			t.Fatalf("%q: %q %v", s, w, e)
		}
	}
	r := rand.New(rand.NewSource(4))
	for range 120 {
		s := lines(randoms(r, 3))
		for i := range len(s) + 1 {
			for k := range len(bytes) {
				c := bytes[k : k+1]
				hold(s[:i] + c + s[i:])
				if i < len(s) {
					hold(s[:i] + c + s[i+1:])
				}
			}
			hold(s[:i])
			if i < len(s) {
				hold(s[:i] + s[i+1:])
			}
		}
		words := strings.SplitAfter(s, " ")
		r.Shuffle(len(words), func(i, j int) { words[i], words[j] = words[j], words[i] })
		hold(strings.Join(words, ""))
	}
	if good < 1000 || wrong < 50000 {
		t.Errorf("%d right and %d wrong texts", good, wrong)
	}
}

// P22.3: words put together anyhow.
func TestRandomWords(t *testing.T) {
	r := rand.New(rand.NewSource(5))
	words := slices.Concat(kinds, errnos, strings.Fields("- 61 ff 6162 0 1 2 7 8 15 16 23 24 25 -1 -2 1099511627776 1099511627777 00 abcd"))
	right := map[int]int{}
	for range 400000 {
		l := []string{kinds[1+r.Intn(7)]}
		for _, c := range fields[slices.Index(kinds, l[0])] {
			if r.Intn(20) == 0 {
				c = rune("raspte"[r.Intn(6)])
			}
			switch c {
			case 't':
				l = append(l, []string{"-", "61", "ff00", "6", "6G"}[r.Intn(5)])
			case 'e':
				l = append(l, errnos[r.Intn(len(errnos))])
			default:
				l = append(l, words[len(kinds)+len(errnos):][r.Intn(20)])
			}
		}
		if f := holdEvents(t, strings.Join(l, " ")+"\n"); f.Err == api.OK {
			right[slices.Index(kinds, l[0])]++
		}
	}
	for i := 1; i <= 7; i++ {
		if right[i] < 100 {
			t.Errorf("%s: only %d right lines", kinds[i], right[i])
		}
	}
}

// P22.3: Same compares all fields of all events, be they right or not.
func TestSame(t *testing.T) {
	x := token(1, "ab", 5)
	for _, y := range []api.Event{{Kind: 1, Symbol: 1, Text: "ab", At: 5}, {Kind: 3, Text: "ab", At: 5}, {Kind: 3, Symbol: 1, At: 5}, {Kind: 3, Symbol: 1, Text: "ab"}, {Kind: 3, Symbol: 1, Text: "ab", At: 5, Prod: 1}, {Kind: 3, Symbol: 1, Text: "ab", At: 5, Record: 1}, {Kind: 3, Symbol: 1, Text: "ab", At: 5, Err: 1}, {}} {
		if event.Same([]api.Event{x}, []api.Event{y}) || event.Same([]api.Event{y, y}, []api.Event{y, x}) || event.Same([]api.Event{x, y}, []api.Event{y, x}) {
			t.Errorf("%+v", y)
		}
		if !event.Same([]api.Event{y}, []api.Event{y}) || !event.Same([]api.Event{x, y}, []api.Event{x, y}) || event.Same([]api.Event{x}, []api.Event{x, y}) || event.Same([]api.Event{x, y}, []api.Event{x}) || event.Same([]api.Event{y}, []api.Event{y, y}) {
			t.Errorf("%+v", y)
		}
		if event.Same(nil, []api.Event{y}) || event.Same([]api.Event{y}, nil) {
			t.Errorf("%+v", y)
		}
	}
	if !event.Same(nil, []api.Event{}) || !event.Same([]api.Event{}, nil) || !event.Same(nil, nil) || !event.Same([]api.Event{{}}, []api.Event{{}}) {
		t.Error("lists without events, or with one that is not right")
	}
	l := right()
	if !event.Same(l, slices.Clone(l)) || event.Same(l, l[1:]) || event.Same(l, append(slices.Clone(l), l[0])) {
		t.Error("long lists")
	}
}

// R4, R6: arguments stay as they are, with the room behind them; results share no memory, and come again.
func TestMemory(t *testing.T) {
	r := rand.New(rand.NewSource(6))
	for range 300 {
		room := append(randoms(r, 8), record(1, 2), api.Event{Kind: 99}, exit(17, 3))
		l := room[:len(room)-2]
		was := slices.Clone(room)
		s, _ := event.List(l)
		event.Same(l, room)
		if !slices.Equal(room, was) {
			t.Fatalf("%+v became %+v", was, room)
		}
		a, _ := event.Events(s)
		b, _ := event.Events(s)
		if !slices.Equal(a, l) || !slices.Equal(b, l) {
			t.Fatalf("%+v: %+v %+v", l, a, b)
		}
		for i := range a {
			a[i] = api.Event{Kind: -1}
		}
		_ = append(a, api.Event{Kind: -2})
		c, _ := event.Events(s)
		if !slices.Equal(b, was[:len(l)]) || !slices.Equal(c, b) || !slices.Equal(room, was) {
			t.Fatalf("%+v: %+v %+v", l, b, c)
		}
		if again, _ := event.List(l); again != s {
			t.Fatalf("%q, then %q", s, again)
		}
	}
}

// P1: any arguments.
func TestAny(t *testing.T) {
	r := rand.New(rand.NewSource(7))
	anyInt := func() int {
		switch r.Intn(3) {
		case 0:
			return strange[r.Intn(len(strange))]
		case 1:
			return r.Intn(40) - 5
		}
		return int(r.Uint64())
	}
	for range 100000 {
		e := api.Event{Kind: r.Intn(10) - 1, Symbol: anyInt(), Prod: anyInt(), Record: anyInt(), At: anyInt(), Text: strings.Repeat("\xc3", r.Intn(30)), Err: api.Errno(anyInt())}
		holdCheck(t, e)
		holdWritten(t, e)
		b := make([]byte, r.Intn(12))
		r.Read(b)
		if len(b) > 0 {
			b[0] %= 9
		}
		holdRead(t, string(b), anyInt())
		holdRead(t, string(b), 0)
		holdEvents(t, string(b))
	}
}
