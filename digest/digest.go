// Package digest implements SHA-256, trees and chains of hashes. See shared/doc/02-digest.md.
package digest

import (
	"math/bits"

	"soundpost/api"
)

var roundKeys = [64]uint32{
	0x428a2f98, 0x71374491, 0xb5c0fbcf, 0xe9b5dba5, 0x3956c25b, 0x59f111f1, 0x923f82a4, 0xab1c5ed5,
	0xd807aa98, 0x12835b01, 0x243185be, 0x550c7dc3, 0x72be5d74, 0x80deb1fe, 0x9bdc06a7, 0xc19bf174,
	0xe49b69c1, 0xefbe4786, 0x0fc19dc6, 0x240ca1cc, 0x2de92c6f, 0x4a7484aa, 0x5cb0a9dc, 0x76f988da,
	0x983e5152, 0xa831c66d, 0xb00327c8, 0xbf597fc7, 0xc6e00bf3, 0xd5a79147, 0x06ca6351, 0x14292967,
	0x27b70a85, 0x2e1b2138, 0x4d2c6dfc, 0x53380d13, 0x650a7354, 0x766a0abb, 0x81c2c92e, 0x92722c85,
	0xa2bfe8a1, 0xa81a664b, 0xc24b8b70, 0xc76c51a3, 0xd192e819, 0xd6990624, 0xf40e3585, 0x106aa070,
	0x19a4c116, 0x1e376c08, 0x2748774c, 0x34b0bcb5, 0x391c0cb3, 0x4ed8aa4a, 0x5b9cca4f, 0x682e6ff3,
	0x748f82ee, 0x78a5636f, 0x84c87814, 0x8cc70208, 0x90befffa, 0xa4506ceb, 0xbef9a3f7, 0xc67178f2,
}

// state is h(0) to h(7).
type state [8]uint32

// Sum returns the hash of bytes.
func Sum(b []byte) (d api.Digest) {
	h := &state{0x6a09e667, 0xbb67ae85, 0x3c6ef372, 0xa54ff53a, 0x510e527f, 0x9b05688c, 0x1f83d9ab, 0x5be0cd19}
	absorb := h.absorb
	rest := b
	for len(rest) >= 64 {
		absorb(rest[:64])
		rest = rest[64:]
	}
	end := padding(rest, len(b))
	for len(end) > 0 {
		absorb(end[:64])
		end = end[64:]
	}
	return h.bytes()
}

// padding returns the last bytes of n bytes, padded to whole blocks.
func padding(rest []byte, n int) []byte {
	end := make([]byte, (len(rest)+9+63)/64*64)
	copy(end, rest)
	end[len(rest)] = 0x80
	for i := range 8 {
		end[len(end)-1-i] = byte(uint64(n) * 8 >> (8 * i))
	}
	return end
}

func (h *state) bytes() (d api.Digest) {
	for i := range d {
		d[i] = byte(h[i/4] >> (24 - i%4*8))
	}
	return d
}

func ror(v uint32, n int) uint32 { return bits.RotateLeft32(v, -n) }

func schedule(block []byte) (w [64]uint32) {
	for i := range 16 {
		w[i] = uint32(block[4*i])<<24 | uint32(block[4*i+1])<<16 | uint32(block[4*i+2])<<8 | uint32(block[4*i+3])
	}
	for i := range 48 {
		t := i + 16
		x, y := w[t-15], w[t-2]
		w[t] = w[t-16] + (ror(x, 7) ^ ror(x, 18) ^ x>>3) + w[t-7] + (ror(y, 17) ^ ror(y, 19) ^ y>>10)
	}
	return w
}

func (h *state) absorb(block []byte) {
	w := schedule(block)
	v := *h
	for t := range 64 {
		a, b, c, e, f, g := v[0], v[1], v[2], v[4], v[5], v[6]
		p := v[7] + (ror(e, 6) ^ ror(e, 11) ^ ror(e, 25)) + (e&f ^ ^e&g) + roundKeys[t] + w[t]
		q := (ror(a, 2) ^ ror(a, 13) ^ ror(a, 22)) + (a&b ^ a&c ^ b&c)
		v = state{p + q, a, b, c, v[3] + p, e, f, g}
	}
	for i := range 8 {
		h[i] += v[i]
	}
}

// Tagged returns the hash of bytes under a tag.
func Tagged(tag string, b []byte) (d api.Digest) {
	t := Sum([]byte(tag))
	return Sum(append(t[:len(t):len(t)], b...))
}

// pair returns the hash of two digests under a tag.
func pair(tag string, a, b api.Digest) api.Digest {
	return Tagged(tag, append(a[:len(a):len(a)], b[:]...))
}

// left returns how many of n elements, more than one, belong to the first part.
func left(n int) int { return 1 << (bits.Len(uint(n-1)) - 1) }

// Tree returns the digest of a list.
func Tree(l []api.Digest) (d api.Digest) {
	switch len(l) {
	case 0:
		return Tagged("empty", nil)
	case 1:
		return leaf(l[0])
	}
	k := left(len(l))
	return pair("node", Tree(l[:k]), Tree(l[k:]))
}

func leaf(d api.Digest) api.Digest { return Tagged("leaf", d[:]) }

// Path returns what proves that an element is in a list.
func Path(l []api.Digest, at int) (path []api.Digest, e api.Errno) {
	if at < 0 || at >= len(l) {
		return nil, api.ErrArg
	}
	return walk(l, at), api.OK
}

func walk(l []api.Digest, at int) []api.Digest {
	if len(l) == 1 {
		return nil
	}
	k := left(len(l))
	if at < k {
		return append(walk(l[:k], at), Tree(l[k:]))
	}
	return append(walk(l[k:], at-k), Tree(l[:k]))
}

// Climb returns the digest of a list to which a path leads from an element.
func Climb(d api.Digest, at, n int, path []api.Digest) (root api.Digest, e api.Errno) {
	if n < 1 || n > 1<<40 || at < 0 || at >= n || len(path) != steps(at, n) {
		return api.Digest{}, api.ErrArg
	}
	return climb(d, at, n, path), api.OK
}

// steps returns the length of the path of an element.
func steps(at, n int) int {
	many := 0
	for n > 1 {
		if k := left(n); at < k {
			n = k
		} else {
			at, n = at-k, n-k
		}
		many++
	}
	return many
}

func climb(d api.Digest, at, n int, path []api.Digest) api.Digest {
	if n == 1 {
		return leaf(d)
	}
	k, last := left(n), len(path)-1
	if at < k {
		return pair("node", climb(d, at, k, path[:last]), path[last])
	}
	return pair("node", path[last], climb(d, at-k, n-k, path[:last]))
}

// Chain returns the end of a chain after another element.
func Chain(end, d api.Digest) (next api.Digest) { return pair("chain", end, d) }
