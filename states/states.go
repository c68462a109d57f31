// Package states checks and makes the states of processors, compiled or not.
package states

import (
	"soundpost/api"
	"soundpost/whole"
)

// Within reports whether there is a number for each bound, and each of them is within it.
func Within(l []int, bounds []api.Bound) bool {
	if len(l) != len(bounds) {
		return false
	}
	for i, b := range bounds {
		if !whole.Within(l[i], b.Lo, b.Hi) {
			return false
		}
	}
	return true
}

// Samples reports whether all numbers are samples.
func Samples(l []int) bool {
	for _, v := range l {
		if !whole.Within(v, api.MinSample, api.MaxSample) {
			return false
		}
	}
	return true
}

// Fits reports whether s is a state with these values and lines.
func Fits(s api.State, values []api.Bound, lines []api.Line) bool {
	if !Within(s.Values, values) || len(s.Lines) != len(lines) {
		return false
	}
	for i, l := range lines {
		if len(s.Lines[i]) != l.Size {
			return false
		}
		for _, v := range s.Lines[i] {
			if v != 0 && !whole.Within(v, l.Lo, l.Hi) {
				return false
			}
		}
	}
	return true
}

// Start returns the state in which a processor begins.
func Start(values []api.Bound, lines []api.Line) (s api.State) {
	for _, b := range values {
		s.Values = append(s.Values, whole.Hold(0, b.Lo, b.Hi))
	}
	for _, l := range lines {
		s.Lines = append(s.Lines, make([]int, l.Size))
	}
	return s
}
