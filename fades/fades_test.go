package fades

import (
	"slices"
	"testing"

	"soundpost/api"
	"soundpost/fixed"
	"soundpost/fixtures"
)

func TestGain(t *testing.T) {
	for i, x := range []struct {
		i, n, want int
		e          api.Errno
	}{
		{0, 1, 32768, api.OK}, {1, 1, 0, api.ErrArg}, {-1, 1, 0, api.ErrArg}, {0, 0, 0, api.ErrArg}, {0, 1<<24 + 1, 0, api.ErrArg}, {1<<24 - 1, 1 << 24, 65535, api.OK}, {0, 1 << 24, 0, api.OK}, {2, 3, 49152, api.OK},
	} {
		if g, e := Gain(x.i, x.n); g != x.want || e != x.e {
			t.Error(i, g, e)
		}
	}
	for n := 1; n < 60; n++ {
		last := 0
		for i := range n {
			g, _ := Gain(i, n)
			h, _ := Gain(n-1-i, n)
			if g < last || g > 65535 || g+h < 65535 || g+h > 65536 {
				t.Error(i, n)
			}
			last = g
		}
	}
}

func TestFades(t *testing.T) {
	hundred := []int{100, 100, 100, 100}
	if x, e := In(hundred, 3); e != api.OK || !slices.Equal(x, []int{25, 50, 75, 100}) || hundred[0] != 100 {
		t.Error(x, e)
	}
	if x, e := Out(hundred, 3); e != api.OK || !slices.Equal(x, []int{100, 75, 50, 25}) {
		t.Error(x, e)
	}
	if x, e := In([]int{7, 8 << 40}, 0); e != api.OK || !slices.Equal(x, []int{7, 8 << 40}) {
		t.Error(x, e)
	}
	for _, n := range []int{-1, 3} {
		x, e := In([]int{7, 8}, n)
		y, f := Out([]int{7, 8}, n)
		z, g := Cross([]int{7, 8}, hundred, n)
		w, h := Cross(hundred, []int{7, 8}, n)
		if e != api.ErrArg || f != api.ErrArg || g != api.ErrArg || h != api.ErrArg || x != nil || y != nil || z != nil || w != nil {
			t.Error(n)
		}
	}
	long := make([]int, 1<<24+1)
	_, e := In(long, 0)
	_, f := Out(long, 0)
	_, g := Cross(long, nil, 0)
	_, h := Cross(nil, long, 0)
	if e != api.ErrArg || f != api.ErrArg || g != api.ErrArg || h != api.ErrArg {
		t.Error(e, f, g, h)
	}
}

func TestCross(t *testing.T) {
	if x, e := Cross([]int{1}, []int{2}, 0); e != api.OK || !slices.Equal(x, []int{1, 2}) {
		t.Error(x, e)
	}
	if x, e := Cross([]int{100, 100}, []int{0, 0}, 1); e != api.OK || !slices.Equal(x, []int{100, 50, 0}) {
		t.Error(x, e)
	}
	r := &fixtures.Random{State: 1}
	for range 200 {
		a, b := make([]int, 3+r.Intn(6)), make([]int, 3+r.Intn(6))
		for _, l := range [][]int{a, b} {
			for i := range l {
				l[i] = r.Sample()
			}
		}
		n := r.Intn(4)
		x, e := Cross(a, b, n)
		out, _ := Out(a, n)
		in, _ := In(b, n)
		want := slices.Clone(out)
		for i, v := range in {
			if k := len(a) - n + i; k < len(want) {
				want[k] = fixed.Add(want[k], v)
			} else {
				want = append(want, v)
			}
		}
		if e != api.OK || !slices.Equal(x, want) {
			t.Fatal(a, b, n, x, want)
		}
		slices.Reverse(a)
		if back, _ := In(a, n); true {
			slices.Reverse(back)
			if !slices.Equal(back, out) {
				t.Fatal("backwards")
			}
		}
	}
}
