package links

import (
	"math"
	"math/rand"
	"slices"
	"testing"

	"soundpost/api"
)

func link(from, to int) api.Link { return api.Link{From: from, To: to, Num: 1, Den: 1} }

func TestCheck(t *testing.T) {
	wrong := func(f func(*api.Link)) []api.Link {
		x := link(0, 1)
		f(&x)
		return []api.Link{x}
	}
	for i, x := range []struct {
		n    int
		l    []api.Link
		want api.Errno
	}{
		{0, nil, api.OK}, {256, nil, api.OK}, {257, make([]api.Link, 257), api.ErrArg}, {-1, nil, api.ErrArg}, {256, make([]api.Link, 257), api.ErrLimit},
		{2, []api.Link{link(0, 1), link(0, 1)}, api.ErrLink}, {2, []api.Link{link(0, 1), link(1, 0)}, api.ErrCircular}, {1, []api.Link{link(0, 0)}, api.ErrLink},
		{2, []api.Link{link(0, 2)}, api.ErrLink}, {2, []api.Link{link(-1, 0)}, api.ErrLink}, {4, []api.Link{link(1, 2), link(2, 3), link(3, 1)}, api.ErrCircular},
		{4, []api.Link{link(1, 2), link(2, 3), link(0, 1)}, api.OK}, {3, []api.Link{link(0, 1), link(1, 0), link(9, 2)}, api.ErrLink},
		{2, wrong(func(x *api.Link) { x.Num = -1 << 31 }), api.ErrLink}, {2, wrong(func(x *api.Link) { x.Num = 1 << 31 }), api.ErrLink}, {2, wrong(func(x *api.Link) { x.Den = 0 }), api.ErrLink},
		{2, wrong(func(x *api.Link) { x.Den = 1 << 31 }), api.ErrLink}, {2, wrong(func(x *api.Link) { x.Add = 1 << 31 }), api.ErrLink}, {2, wrong(func(x *api.Link) { x.Num = 0 }), api.OK},
		{5, []api.Link{link(0, 1), link(2, 3), link(3, 2)}, api.ErrCircular},
	} {
		o, e := Order(x.n, x.l)
		if Check(x.n, x.l) != x.want || e != x.want || e != api.OK && o != nil {
			t.Error(i, Check(x.n, x.l), e)
		}
		if x.n >= 0 {
			if v, e := Values(x.l, make([]int, x.n)); e != x.want || e != api.OK && v != nil {
				t.Error(i, e)
			}
		}
	}
}

func TestOrder(t *testing.T) {
	for i, x := range []struct {
		n    int
		l    []api.Link
		want []int
	}{
		{3, []api.Link{link(2, 0)}, []int{1, 2, 0}}, {3, []api.Link{link(0, 1), link(1, 2)}, []int{0, 1, 2}}, {3, []api.Link{link(2, 1), link(1, 0)}, []int{2, 1, 0}},
		{4, []api.Link{link(3, 0)}, []int{1, 2, 3, 0}},
	} {
		if o, e := Order(x.n, x.l); e != api.OK || !slices.Equal(o, x.want) {
			t.Error(i, o, e)
		}
	}
}

func TestValues(t *testing.T) {
	x := api.Link{From: 1, To: 0, Num: 2, Den: 3, Add: 5}
	if v, e := Values([]api.Link{x}, []int{math.MaxInt, -7}); e != api.OK || !slices.Equal(v, []int{0, -7}) {
		t.Error(v, e)
	}
	big := api.Link{From: 0, To: 1, Num: -(1<<31 - 1), Den: 1, Add: -1 << 31}
	if v, e := Values([]api.Link{big, link(1, 2)}, []int{math.MaxInt, 0, 9}); e != api.OK || !slices.Equal(v, []int{1<<31 - 1, -1 << 31, -1 << 31}) {
		t.Error(v, e)
	}
	r := rand.New(rand.NewSource(1))
	for range 100 {
		var l []api.Link
		values := make([]int, 10)
		for to := 1; to < 10; to++ {
			values[to] = r.Intn(100)
			if r.Intn(2) == 0 {
				l = append(l, api.Link{From: r.Intn(to), To: to, Num: r.Intn(9) - 4, Den: 1 + r.Intn(3), Add: r.Intn(9)})
			}
		}
		v, _ := Values(l, values)
		other := slices.Clone(values)
		for _, x := range l {
			other[x.To] = -1
		}
		r.Shuffle(len(l), func(i, k int) { l[i], l[k] = l[k], l[i] })
		if w, _ := Values(l, other); !slices.Equal(v, w) {
			t.Fatal(l, v, w)
		}
	}
}

func TestRing(t *testing.T) {
	var l []api.Link
	for i := range 256 {
		l = append(l, link(i, (i+1)%256))
	}
	if e := Check(256, l); e != api.ErrCircular {
		t.Error(e)
	}
	if e := Check(256, l[:255]); e != api.OK {
		t.Error(e)
	}
	if e := Check(2, []api.Link{link(2, 0)}); e != api.ErrLink {
		t.Error(e)
	}
}
