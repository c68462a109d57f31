package curves

import (
	"math"
	"slices"
	"testing"

	"soundpost/api"
	"soundpost/fixed"
)

func knot(at, v, shape int) api.Knot { return api.Knot{At: at, Value: v, Shape: shape} }

func bent(at, v, a, b int) api.Knot {
	return api.Knot{At: at, Value: v, Shape: api.BendC, A: a, B: b}
}

func TestValue(t *testing.T) {
	for i, x := range []struct {
		l        []api.Knot
		at, want int
	}{
		{nil, 7, 0}, {[]api.Knot{knot(5, 7, 1)}, 4, 7}, {[]api.Knot{knot(5, 7, 2)}, 6, 7}, {[]api.Knot{bent(5, 7, 1, 1)}, math.MaxInt, 7},
		{[]api.Knot{knot(5, 7, 2)}, math.MinInt, 7}, {[]api.Knot{knot(0, 1, 1), knot(4, 9, 1)}, 3, 1}, {[]api.Knot{knot(0, 1, 1), knot(4, 9, 1)}, 4, 9},
		{[]api.Knot{bent(0, 0, 1, 3), knot(4, 100, 1)}, 2, 75}, {[]api.Knot{knot(0, 0, 2), knot(2, -1, 1)}, 1, -1},
	} {
		if v, e := Value(x.l, x.at); v != x.want || e != api.OK {
			t.Error(i, v, e)
		}
	}
	if v, e := Values([]api.Knot{knot(0, 0, 2), knot(3, 100, 1)}, -1, 6); e != api.OK || !slices.Equal(v, []int{0, 0, 33, 66, 100, 100}) {
		t.Error(v, e)
	}
}

func TestCheck(t *testing.T) {
	many := make([]api.Knot, 1025)
	for i := range many {
		many[i] = knot(i, 0, 1)
	}
	for i, l := range [][]api.Knot{
		{knot(-1, 0, 1)}, {knot(1<<40+1, 0, 1)}, {knot(0, 1<<31, 1)}, {knot(0, -1<<31-1, 1)}, {knot(0, 0, 0)}, {knot(0, 0, 4)}, {knot(0, 0, -1)},
		{bent(0, 0, 0, 1)}, {bent(0, 0, 1, 17)}, {{Shape: 1, A: 1}}, {{Shape: 2, B: 1}}, {knot(1, 0, 1), knot(1, 0, 1)}, {knot(2, 0, 1), knot(1, 0, 1)},
		{knot(0, 0, 2), knot(1<<24+1, 0, 1)}, {bent(0, 0, 1, 1), knot(1<<24+1, 0, 1)}, many,
	} {
		_, e1 := Value(l, 0)
		_, e2 := Values(l, 0, -1)
		if Check(l) != api.ErrCurve || e1 != api.ErrCurve || e2 != api.ErrCurve {
			t.Error(i)
		}
	}
	for i, l := range [][]api.Knot{many[:1024], {knot(0, 0, 2), knot(1<<24, 0, 2)}, {knot(0, 0, 1), knot(1<<40, 0, 2)}} {
		if Check(l) != api.OK {
			t.Error(i)
		}
	}
	for i, x := range []struct {
		from, n int
		e       api.Errno
	}{{-1<<40 - 1, 0, api.ErrArg}, {1<<40 + 1, 0, api.ErrArg}, {0, -1, api.ErrArg}, {0, 65537, api.ErrLimit}, {1 << 40, 65536, api.OK}} {
		if v, e := Values(nil, x.from, x.n); e != x.e || e != api.OK && v != nil {
			t.Error(i, e)
		}
	}
}

func TestBetween(t *testing.T) {
	l := []api.Knot{knot(10, -50, 2), bent(20, 70, 2, 9), knot(45, -3, 1), knot(60, 8, 1)}
	v, _ := Values(l, 0, 80)
	for i := 20; i < 45; i++ {
		want, _ := fixed.Bend(70, -3, i-20, 25, 2, 9)
		if v[i] != want || v[i+1] > v[i] {
			t.Error(i, v[i])
		}
	}
	moved := slices.Clone(l)
	for i := range moved {
		moved[i].At += 1000
	}
	if w, _ := Values(moved, 1000, 80); !slices.Equal(v, w) {
		t.Error("moved")
	}
}

func TestResolve(t *testing.T) {
	half := []api.Tempo{{N: 1, D: 2}}
	x, e := Resolve(half, []api.Knot{knot(0, 1, 1), knot(1, 2, 1), knot(2, 3, 2)})
	if e != api.OK || !slices.Equal(x, []api.Knot{knot(0, 2, 1), knot(1, 3, 2)}) {
		t.Error(x, e)
	}
	fast := []api.Tempo{{N: 1 << 20, D: 1}}
	for i, c := range []struct {
		m    []api.Tempo
		l    []api.Knot
		want api.Errno
	}{
		{nil, []api.Knot{{}}, api.ErrTempo}, {half, []api.Knot{{}}, api.ErrCurve}, {half, []api.Knot{knot(1<<24+1, 0, 1)}, api.ErrCurve},
		{fast, []api.Knot{knot(1<<24, 0, 1)}, api.ErrRat}, {fast, []api.Knot{knot(0, 0, 2), knot(17, 0, 1)}, api.ErrCurve}, {fast, []api.Knot{knot(0, 0, 2), knot(16, 0, 1)}, api.OK},
		{half, nil, api.OK},
	} {
		if x, e := Resolve(c.m, c.l); e != c.want || e != api.OK && x != nil {
			t.Error(i, x, e)
		}
	}
}

func TestNoValues(t *testing.T) {
	if v, e := Values(nil, 3, 0); e != api.OK || len(v) != 0 {
		t.Error(v, e)
	}
}
