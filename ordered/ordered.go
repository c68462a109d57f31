// Package ordered walks through lists that are in order.
package ordered

import "iter"

// Union yields the elements of two strictly increasing lists in order; of two that compare as equal, that of a.
func Union[T any](a, b []T, compare func(a, b T) int) iter.Seq[T] {
	return func(yield func(T) bool) {
		for len(a) > 0 || len(b) > 0 {
			order := 0
			switch {
			case len(b) == 0:
				order = -1
			case len(a) == 0:
				order = 1
			default:
				order = compare(a[0], b[0])
			}
			var next T
			if order >= 0 {
				next, b = b[0], b[1:]
			}
			if order <= 0 {
				next, a = a[0], a[1:]
			}
			if !yield(next) {
				return
			}
		}
	}
}
