package equal

import (
	"testing"

	"soundpost/api"
)

func TestEqual(t *testing.T) {
	a := api.Clip{Kind: 1, At: []int{}, L: []api.Clip{{Len: 3}}}
	b := api.Clip{Kind: 1, L: []api.Clip{{Len: 3, L: []api.Clip{}}}}
	c := api.Clip{Kind: 1, L: []api.Clip{{Len: 4}}}
	if !Clip(a, b) || Clip(a, c) || Clip(a, api.Clip{}) {
		t.Error("clips")
	}
	g := api.Gesture{Mode: 1, Knots: []api.Knot{{At: 1}}}
	if !Gesture(g, g) || Gesture(g, api.Gesture{Mode: 1}) {
		t.Error("gestures")
	}
	s := api.State{Values: []int{1}, Lines: [][]int{{1}, nil}}
	if !State(s, api.State{Values: []int{1}, Lines: [][]int{{1}, {}}}) || State(s, api.State{Values: []int{1}}) {
		t.Error("states")
	}
	o := api.Op{Peer: 1, Of: [2]int{1, 2}, Clip: a}
	if !Op(o, api.Op{Peer: 1, Of: [2]int{1, 2}, Clip: b}) || Op(o, api.Op{Peer: 1, Of: [2]int{1, 2}, Clip: c}) || Op(o, api.Op{Peer: 1, Clip: a}) {
		t.Error("operations")
	}
}
