package gestures

import (
	"math"
	"slices"
	"testing"

	"soundpost/api"
)

func flat(v int) []api.Knot { return []api.Knot{{Value: v, Shape: api.HoldC}} }

func gesture(mode, from, to, until, v int) api.Gesture {
	return api.Gesture{Mode: mode, From: from, To: to, Until: until, Knots: flat(v)}
}

func TestCheck(t *testing.T) {
	ok := gesture(api.TouchM, 0, 1, 1, 5)
	for i, f := range []func(*api.Gesture){
		func(g *api.Gesture) { g.Mode = 0 }, func(g *api.Gesture) { g.Mode = 4 }, func(g *api.Gesture) { g.From = -1 }, func(g *api.Gesture) { g.From = 1 },
		func(g *api.Gesture) { g.Until = 2 }, func(g *api.Gesture) { g.To, g.Until = 1<<40+1, 1<<40+1 }, func(g *api.Gesture) { g.Knots = nil },
		func(g *api.Gesture) { g.Knots = []api.Knot{{}} }, func(g *api.Gesture) { g.Mode, g.Until = api.LatchM, 0 }, func(g *api.Gesture) { g.Mode, g.Until = api.TrimM, 9 },
	} {
		g := ok
		f(&g)
		l := []api.Gesture{ok, g}
		v, e1 := Value(3, l, 0)
		w, e2 := Values(make([]int, 65537), 0, l)
		if Check(l) != api.ErrGesture || e1 != api.ErrGesture || e2 != api.ErrGesture || v != 0 || w != nil {
			t.Error(i)
		}
	}
	if Check(slices.Repeat([]api.Gesture{ok}, 64)) != api.OK || Check(slices.Repeat([]api.Gesture{ok}, 65)) != api.ErrGesture || Check(nil) != api.OK {
		t.Error("number")
	}
	if Check([]api.Gesture{gesture(api.LatchM, 0, 1, 1<<40, 5)}) != api.OK {
		t.Error("latch")
	}
}

func TestValue(t *testing.T) {
	trim, touch := gesture(api.TrimM, 0, 10, 10, 4), gesture(api.TouchM, 0, 10, 10, 1)
	latch := gesture(api.LatchM, 10, 20, 30, 7)
	latch.Knots = []api.Knot{{At: 10, Value: 7, Shape: api.LineC}, {At: 30, Value: 27, Shape: api.HoldC}}
	for i, x := range []struct {
		base     int
		l        []api.Gesture
		at, want int
	}{
		{3, nil, 5, 3}, {3, []api.Gesture{trim}, 9, 7}, {3, []api.Gesture{trim}, 10, 3}, {3, []api.Gesture{trim, touch}, 9, 1}, {3, []api.Gesture{touch, trim}, 9, 5},
		{3, []api.Gesture{latch}, 9, 3}, {3, []api.Gesture{latch}, 10, 7}, {3, []api.Gesture{latch}, 19, 16}, {3, []api.Gesture{latch}, 20, 16}, {3, []api.Gesture{latch}, 29, 16}, {3, []api.Gesture{latch}, 30, 3},
		{math.MaxInt, []api.Gesture{trim}, 0, 1<<31 - 1}, {math.MaxInt, []api.Gesture{trim}, 10, math.MaxInt}, {3, []api.Gesture{trim, trim}, 1, 11},
		{3, []api.Gesture{gesture(api.TouchM, 10, 20, 20, 7)}, 20, 3}, {3, []api.Gesture{gesture(api.TouchM, 10, 20, 20, 7)}, 10, 7}, {3, []api.Gesture{touch}, math.MinInt, 3},
	} {
		if v, e := Value(x.base, x.l, x.at); v != x.want || e != api.OK {
			t.Error(i, v, e)
		}
	}
	base := make([]int, 40)
	l := []api.Gesture{trim, latch, gesture(api.TouchM, 5, 12, 12, -2)}
	v, e := Values(base, -3, l)
	for i := range base {
		if w, _ := Value(0, l, i-3); e != api.OK || v[i] != w {
			t.Error(i, v[i], w)
		}
	}
	if v, e := Values([]int{1, 2}, math.MaxInt, l); e != api.OK || !slices.Equal(v, []int{1, 2}) {
		t.Error(v, e)
	}
	if v, e := Values(make([]int, 65537), 0, nil); e != api.ErrLimit || v != nil {
		t.Error(e)
	}
}

func TestGreatestBlock(t *testing.T) {
	g := gesture(api.LatchM, 1<<40-2, 1<<40-1, 1<<40, 5)
	v, e := Values(make([]int, 65536), 1<<40-3, []api.Gesture{g})
	if e != api.OK || len(v) != 65536 || v[0] != 0 || v[1] != 5 || v[2] != 5 || v[3] != 0 {
		t.Error(v[:4], e)
	}
}
