// Package whole contains the arithmetic of integers that several layers share.
package whole

import (
	"math"
	"math/bits"
)

// Div divides a by a positive b, and rounds down.
func Div(a, b int) int {
	q := a / b
	if a%b < 0 {
		q--
	}
	return q
}

// Within reports whether v is from lo to hi.
func Within(v, lo, hi int) bool { return lo <= v && v <= hi }

// Hold returns the number from lo to hi that is nearest to v.
func Hold(v, lo, hi int) int { return max(lo, min(v, hi)) }

// Add returns the sum of a and b, or the int that is nearest to it.
func Add(a, b int) int {
	switch {
	case a > 0 && b > math.MaxInt-a:
		return math.MaxInt
	case a < 0 && b < math.MinInt-a:
		return math.MinInt
	}
	return a + b
}

// Mul returns the product of a and b, or the int that is nearest to it.
func Mul(a, b int) int {
	hi, lo := bits.Mul64(size(a), size(b))
	negative := a < 0 != (b < 0)
	switch {
	case hi == 0 && lo <= math.MaxInt && negative:
		return -int(lo)
	case hi == 0 && lo <= math.MaxInt:
		return int(lo)
	case negative:
		return math.MinInt
	}
	return math.MaxInt
}

func size(a int) uint64 {
	if a < 0 {
		return -uint64(a)
	}
	return uint64(a)
}
