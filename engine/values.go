// Package engine contains what the layers that render share: values that are kept, and processors that are run in blocks.
package engine

import (
	"soundpost/api"
	"soundpost/session"
)

// chunk is for how many samples values are determined together.
const chunk = 2048

// key names values from a sample on.
type key struct{ id, from int }

// Values are the values of the parameters of a valid session. They are determined when they are needed, and kept.
type Values struct {
	session  api.Session
	gains    map[key][]int
	controls map[key][][]int
}

// NewValues returns the values of a valid session.
func NewValues(s api.Session) *Values {
	return &Values{s, map[key][]int{}, map[key][][]int{}}
}

// window returns n values from a sample on, chunk by chunk. After the last position of the timeline nothing changes any more.
func window[T any](id, from, n int, kept map[key][]T, determine func(from int) []T) []T {
	var l []T
	for t := from; t < from+n; {
		start := min(t, api.MaxPos) / chunk * chunk
		values, ok := kept[key{id, start}]
		if !ok {
			values = determine(start)
			kept[key{id, start}] = values
		}
		first := min(t-start, chunk-1)
		last := min(first+from+n-t, chunk)
		if t == from && last-first == n {
			return values[first:last:last]
		}
		l = append(l, values[first:last]...)
		t += last - first
	}
	return l
}

// Gains returns n values of a parameter.
func (v *Values) Gains(id, from, n int) []int {
	return window(id, from, n, v.gains, func(from int) []int {
		l, _ := session.Values(v.session, id, from, chunk)
		return l
	})
}

// Controls returns n values of the parameters of a processor.
func (v *Values) Controls(node, from, n int) [][]int {
	return window(node, from, n, v.controls, func(from int) [][]int {
		l, _ := session.Controls(v.session, node, from, chunk)
		return l
	})
}
