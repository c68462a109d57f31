// Package whole contains the arithmetic of integers that several layers share.
package whole

// Div divides a by a positive b, and rounds down.
func Div(a, b int) int {
	q := a / b
	if a%b < 0 {
		q--
	}
	return q
}

// Within reports whether v is from lo to hi.
func Within(v, lo, hi int) bool { return lo <= v && v <= hi }

// Hold returns the number from lo to hi that is nearest to v.
func Hold(v, lo, hi int) int { return max(lo, min(v, hi)) }
