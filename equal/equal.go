// Package equal compares values that contain lists; empty lists are equal, however they came about.
package equal

import (
	"slices"

	"soundpost/api"
)

// Clip reports whether two clips are equal in all fields.
func Clip(a, b api.Clip) bool {
	return a.Kind == b.Kind && a.Take == b.Take && a.From == b.From && a.Len == b.Len && a.A == b.A && a.B == b.B &&
		slices.Equal(a.At, b.At) && slices.EqualFunc(a.L, b.L, Clip)
}

// Gesture reports whether two gestures are equal in all fields.
func Gesture(a, b api.Gesture) bool {
	return a.Mode == b.Mode && a.From == b.From && a.To == b.To && a.Until == b.Until && slices.Equal(a.Knots, b.Knots)
}

// State reports whether two states are equal in all fields.
func State(a, b api.State) bool {
	return slices.Equal(a.Values, b.Values) && Lists(a.Lines, b.Lines)
}

// Lists reports whether two lists of lists are equal.
func Lists(a, b [][]int) bool { return slices.EqualFunc(a, b, slices.Equal[[]int]) }

// Op reports whether two operations are equal in all fields.
func Op(a, b api.Op) bool {
	return a.Peer == b.Peer && a.No == b.No && a.Time == b.Time && a.Kind == b.Kind && a.A == b.A && a.B == b.B && a.C == b.C && a.D == b.D &&
		a.Of == b.Of && a.Knot == b.Knot && a.Source == b.Source && Clip(a.Clip, b.Clip)
}
