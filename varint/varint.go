// Package varint is layer 1: it writes numbers as varints, and reads them.
package varint

import (
	"iter"
	"math/bits"

	"stenotype/api"
)

const (
	// width is how many bits a digit has.
	width = 7
	// more is the bit that all bytes of a varint have but the last one.
	more = 1 << width
	// last is the offset of the tenth byte in a varint, in which only one bit of a number is left.
	last = 9
)

// unsigned are the types of the numbers that can be written.
type unsigned interface {
	~uint | ~uint8 | ~uint16 | ~uint32 | ~uint64
}

// Bytes returns the varint of n.
func Bytes(n uint64) string {
	return join([]uint64{n})
}

// Size returns how many bytes the varint of n has.
func Size(n uint64) int {
	// The number 0 has no bits, but a digit all the same.
	used := max(bits.Len64(n), 1)
	return (used + width - 1) / width
}

// Read reads a varint of s at the offset at, and returns the number and the offset behind it.
func Read(s string, at int) (n uint64, next int, f api.Fault) {
	if at < 0 || at > len(s) {
		return 0, 0, api.Fault{Err: api.ErrRange}
	}
	for i := at; i < len(s); i++ {
		b, place := s[i], i-at
		if b == 0 && place > 0 || b > 1 && place == last {
			return 0, 0, api.Fault{Err: api.ErrVarint, At: i}
		}
		n |= uint64(b&^more) << (width * place)
		if b < more {
			return n, i + 1, api.Fault{}
		}
	}
	return 0, 0, api.Fault{Err: api.ErrShort, At: len(s)}
}

// Parse returns the number whose varint is the whole of s.
func Parse(s string) (uint64, api.Fault) {
	n, next, f := Read(s, 0)
	if f.Err != api.OK {
		return 0, f
	}
	if next < len(s) {
		return 0, api.Fault{Err: api.ErrLong, At: next}
	}
	return n, api.Fault{}
}

// Bounded reads as Read does, and refuses numbers that are greater than most.
func Bounded(s string, at int, most uint64) (n uint64, next int, f api.Fault) {
	n, next, f = Read(s, at)
	if f.Err != api.OK {
		return 0, 0, f
	}
	if n > most {
		return 0, 0, api.Fault{Err: api.ErrRange, At: at}
	}
	return n, next, api.Fault{}
}

// List returns the varints of all numbers of l, one behind the other.
func List(l []uint64) string {
	return join(l)
}

// ReadList returns the numbers whose varints, one behind the other, are the whole of s; there must be as many as many says.
func ReadList(s string, many int) ([]uint64, api.Fault) {
	if many < 0 || many > api.MaxText {
		return nil, api.Fault{Err: api.ErrRange}
	}
	var l []uint64
	at := 0
	for range many {
		n, next, f := Read(s, at)
		if f.Err != api.OK {
			return nil, f
		}
		l = append(l, n)
		at = next
	}
	if at < len(s) {
		return nil, api.Fault{Err: api.ErrLong, At: at}
	}
	return l, api.Fault{}
}

// Zigzag returns 2n for n from 0 on, and -2n-1 for n below 0.
func Zigzag(n int64) uint64 {
	// The sign, shifted over all bits, inverts 2n where n is below 0: that is -2n-1, also where 2n is too great for an int64.
	return uint64(n)<<1 ^ uint64(n>>63)
}

// Unzigzag returns the number whose Zigzag is n.
func Unzigzag(n uint64) int64 {
	return int64(n>>1) ^ -int64(n&1)
}

// join returns the varints of the numbers of l, one behind the other.
func join[N unsigned](l []N) string {
	var b []byte
	for _, n := range l {
		for d := range digits(uint64(n)) {
			b = append(b, d)
		}
	}
	return string(b)
}

// digits yields the bytes of the varint of n.
func digits(n uint64) iter.Seq[byte] {
	return func(yield func(byte) bool) {
	digit:
		for rest := n; ; rest >>= width {
			switch {
			case rest < more:
				yield(byte(rest))
				break digit
			case !yield(byte(rest) | more):
				break digit
			}
		}
	}
}
