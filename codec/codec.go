// Package codec encodes values canonically. See shared/doc/01-codec.md.
package codec

import (
	"slices"

	"soundpost/api"
)

// kind says how the values of one kind are checked, measured, written and read.
type kind struct {
	formed func(v api.Value) bool
	size   func(v api.Value) int
	write  func(b []byte, v api.Value) []byte
	read   func(r *reader, depth int) api.Value
}

func kinds() [4]kind {
	return [4]kind{
		api.IntV:  {intFormed, intSize, writeInt, readInt},
		api.TextV: {textFormed, textSize, writeText, readText},
		api.ListV: {listFormed, listSize, writeList, readList},
	}
}

// Check validates a value.
func Check(v api.Value) (e api.Errno) {
	if !formed(v) {
		return api.ErrArg
	}
	if depth(v) > api.MaxDepth {
		return api.ErrLimit
	}
	return api.OK
}

// Encode returns the encoding of a value.
func Encode(v api.Value) (b []byte, e api.Errno) {
	if e := Check(v); e != api.OK {
		return nil, e
	}
	return write(make([]byte, 0, size(v)), v), api.OK
}

// Size returns the length of the encoding of a value.
func Size(v api.Value) (n int, e api.Errno) {
	if e := Check(v); e != api.OK {
		return 0, e
	}
	return size(v), api.OK
}

// Same reports whether two values are equal.
func Same(a, b api.Value) (same bool) {
	return a.Kind == b.Kind && a.N == b.N && a.S == b.S && slices.EqualFunc(a.L, b.L, Same)
}

func known(k int) bool { return api.IntV <= k && k <= api.ListV }

func formed(v api.Value) bool { return known(v.Kind) && kinds()[v.Kind].formed(v) }

func intFormed(v api.Value) bool { return v.S == "" && len(v.L) == 0 }

func textFormed(v api.Value) bool { return v.N == 0 && len(v.L) == 0 }

func listFormed(v api.Value) bool {
	if v.N != 0 || v.S != "" {
		return false
	}
	for _, x := range v.L {
		if !formed(x) {
			return false
		}
	}
	return true
}

func depth(v api.Value) int {
	if v.Kind != api.ListV {
		return 0
	}
	most := 0
	for _, x := range v.L {
		most = max(most, depth(x))
	}
	return most + 1
}

func size(v api.Value) int { return 1 + kinds()[v.Kind].size(v) }

func intSize(v api.Value) int { return digits(unsigned(v.N)) }

func textSize(v api.Value) int { return digits(uint64(len(v.S))) + len(v.S) }

func listSize(v api.Value) int {
	n := digits(uint64(len(v.L)))
	for _, x := range v.L {
		n += size(x)
	}
	return n
}

func write(b []byte, v api.Value) []byte {
	return kinds()[v.Kind].write(append(b, byte(v.Kind)), v)
}

func writeInt(b []byte, v api.Value) []byte { return numeral(b, unsigned(v.N)) }

func writeText(b []byte, v api.Value) []byte {
	return append(numeral(b, uint64(len(v.S))), v.S...)
}

func writeList(b []byte, v api.Value) []byte {
	b = numeral(b, uint64(len(v.L)))
	for _, x := range v.L {
		b = write(b, x)
	}
	return b
}

// unsigned maps 0, -1, 1, -2 .. to 0, 1, 2, 3 ..; the wraparound of 2n is wanted.
func unsigned(n int) uint64 {
	if n >= 0 {
		return uint64(n) << 1
	}
	return ^(uint64(n) << 1)
}

func signed(u uint64) int {
	if u&1 == 0 {
		return int(u >> 1)
	}
	return int(^(u >> 1))
}

func digits(u uint64) int {
	n := 1
	for u >= 128 {
		u >>= 7
		n++
	}
	return n
}

func numeral(b []byte, u uint64) []byte {
	for u >= 128 {
		b = append(b, byte(u&127|128))
		u >>= 7
	}
	return append(b, byte(u))
}
