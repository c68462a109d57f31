package journal

import (
	"iter"

	"soundpost/api"
)

// room is how many bytes of a record fit into a sector.
const room = 112

// The places of the parts of a sector, and its flags.
const (
	sumAt   = 4
	noAt    = 8
	flagsAt = 10
	sizeAt  = 11
	dataAt  = 12
	endAt   = 124

	begins = 1
	ends   = 2
)

type word [4]byte

func number(n uint32) word { return word{byte(n >> 24), byte(n >> 16), byte(n >> 8), byte(n)} }

func read(b []byte) (n uint32) {
	for _, x := range word(b) {
		n = n<<8 | uint32(x)
	}
	return n
}

func checksum(b []byte) uint32 {
	n := ^uint32(0)
	for _, x := range b {
		n ^= uint32(x)
		for range 8 {
			odd := n & 1
			n >>= 1
			if odd == 1 {
				n ^= 0xedb88320
			}
		}
	}
	return ^n
}

// sectors returns the sectors of a record that begins at a sector.
func sectors(b []byte, at int, generation uint32) [][api.SectorSize]byte {
	l := make([][api.SectorSize]byte, pieces(b))
	for i := range l {
		s := &l[i]
		n := copy(s[dataAt:endAt], b)
		b = b[n:]
		if i == 0 {
			s[flagsAt] |= begins
		}
		if i == len(l)-1 {
			s[flagsAt] |= ends
		}
		s[noAt], s[noAt+1], s[sizeAt] = byte((at+i)>>8), byte(at+i), byte(n)
		g, sum := number(generation), number(checksum(s[noAt:endAt]))
		copy(s[:], g[:])
		copy(s[sumAt:], sum[:])
		copy(s[endAt:], g[:])
	}
	return l
}

// newest returns the greatest number at a place of a generation, good or not.
func newest(l [][]byte) int {
	most := uint32(0)
	for _, s := range l {
		most = max(most, read(s[:sumAt]), read(s[endAt:]))
	}
	return int(most)
}

func good(s []byte, k int) bool {
	g, flags, n := read(s[:sumAt]), s[flagsAt], int(s[sizeAt])
	if g == 0 || g != read(s[endAt:]) || int(s[noAt])<<8|int(s[noAt+1]) != k || flags > begins|ends || n > room {
		return false
	}
	if flags&ends == 0 && n != room || flags&begins == 0 && n < 1 {
		return false
	}
	for _, x := range s[dataAt+n : endAt] {
		if x != 0 {
			return false
		}
	}
	return read(s[sumAt:noAt]) == checksum(s[noAt:endAt])
}

// records yields the records on sectors.
func records(l [][]byte) iter.Seq[[]byte] {
	return func(yield func([]byte) bool) {
		last := uint32(0)
	next:
		for at := 0; at < len(l); {
			g := read(l[at][:sumAt])
			if !good(l[at], at) || l[at][flagsAt]&begins == 0 || g < last {
				return
			}
			b := []byte{}
			for k := at; k < len(l) && good(l[k], k) && read(l[k][:sumAt]) == g && (k == at || l[k][flagsAt]&begins == 0); k++ {
				b = append(b, l[k][dataAt:dataAt+int(l[k][sizeAt])]...)
				if l[k][flagsAt]&ends == 0 {
					continue
				}
				if !yield(b) {
					return
				}
				at, last = k+1, g
				continue next
			}
			return
		}
	}
}
