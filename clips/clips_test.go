package clips

import (
	"slices"
	"testing"

	"soundpost/api"
	"soundpost/fixtures"
	"soundpost/pool"
)

func pooled(t *testing.T, l ...[]int) (p api.Pool, names []api.Digest) {
	t.Helper()
	for _, data := range l {
		x, d, e := pool.Put(p, data)
		if e != api.OK {
			t.Fatal(e)
		}
		p, names = x, append(names, d)
	}
	return p, names
}

func take(d api.Digest, from, n int) api.Clip {
	return api.Clip{Kind: api.TakeK, Take: d, From: from, Len: n}
}

func rest(n int) api.Clip { return api.Clip{Kind: api.RestK, Len: n} }

func cut(from, n int, c api.Clip) api.Clip {
	return api.Clip{Kind: api.CutK, From: from, Len: n, L: []api.Clip{c}}
}

func back(c api.Clip) api.Clip { return api.Clip{Kind: api.BackK, L: []api.Clip{c}} }

func with(kind, a, b int, c api.Clip) api.Clip {
	return api.Clip{Kind: kind, A: a, B: b, L: []api.Clip{c}}
}

func join(l ...api.Clip) api.Clip { return api.Clip{Kind: api.JoinK, L: l} }

func lay(at []int, l ...api.Clip) api.Clip { return api.Clip{Kind: api.LayK, At: at, L: l} }

func TestSamples(t *testing.T) {
	p, d := pooled(t, []int{1, 2, 3}, []int{0, 10}, []int{100, 100, 100}, []int{9})
	for i, x := range []struct {
		c       api.Clip
		from, n int
		want    []int
	}{
		{take(d[0], 1, 4), 0, 4, []int{2, 3, 0, 0}}, {cut(1, 2, back(take(d[0], 0, 3))), 0, 2, []int{2, 1}}, {with(api.SpeedK, 1, 2, take(d[1], 0, 2)), 0, 3, []int{0, 5, 10}},
		{with(api.FadeK, 1, 1, take(d[2], 0, 3)), 0, 3, []int{50, 100, 50}}, {lay([]int{0, 1}, take(d[0], 0, 3), take(d[3], 0, 1)), 0, 3, []int{1, 9, 3}}, {back(take(d[0], 0, 3)), -1, 5, []int{0, 3, 2, 1, 0}},
		{join(take(d[0], 0, 2), rest(1), take(d[3], 0, 1)), 1, 5, []int{2, 0, 9, 0, 0}}, {take(api.Digest{7}, 0, 2), 0, 2, []int{0, 0}}, {lay([]int{2}, take(d[3], 0, 1)), 0, 4, []int{0, 0, 9, 0}},
		{lay([]int{1, 0}, take(d[3], 0, 1), take(d[0], 0, 3)), 0, 3, []int{1, 2, 3}}, {with(api.FadeK, 3, 0, take(d[2], 0, 3)), 1, 1, []int{50}}, {take(d[0], 1<<24, 1), 0, 1, []int{0}}, {take(d[0], 0, 3), 1 << 40, 2, []int{0, 0}}, {take(d[0], 0, 3), -1 << 40, 2, []int{0, 0}},
	} {
		if v, e := Samples(p, x.c, x.from, x.n); e != api.OK || !slices.Equal(v, x.want) {
			t.Error(i, v, e)
		}
	}
	for i, x := range []struct {
		from, n int
		want    api.Errno
	}{{-1<<40 - 1, 0, api.ErrArg}, {1<<40 + 1, 0, api.ErrArg}, {0, -1, api.ErrArg}, {0, 65537, api.ErrLimit}, {0, 65536, api.OK}} {
		if v, e := Samples(p, rest(1), x.from, x.n); e != x.want || e != api.OK && v != nil {
			t.Error(i, e)
		}
	}
	wild := api.Pool{Takes: []api.Take{{Data: []int{1 << 40, -1 << 40}}}}
	if v, _ := Samples(wild, take(api.Digest{}, 0, 2), 0, 2); !slices.Equal(v, []int{1<<31 - 1, -1 << 31}) {
		t.Error(v)
	}
}

func TestCheck(t *testing.T) {
	one := rest(1)
	nested := func(n int) api.Clip {
		c := one
		for range n - 1 {
			c = back(c)
		}
		return c
	}
	many := func(n int) api.Clip { return join(slices.Repeat([]api.Clip{one}, n-1)...) }
	for i, c := range []api.Clip{
		{}, {Kind: 9}, rest(0), rest(1<<24 + 1), take(api.Digest{}, -1, 1), take(api.Digest{}, 1<<24+1, 1), take(api.Digest{}, 0, 0), cut(0, 0, one), cut(0, 2, one), cut(-1, 1, one), cut(1, 1, one), cut(1<<62, 1<<62, one),
		{Kind: api.RestK, Len: 1, From: 1}, {Kind: api.RestK, Len: 1, A: 1}, {Kind: api.RestK, Len: 1, At: []int{0}}, {Kind: api.RestK, Len: 1, Take: api.Digest{1}}, {Kind: api.RestK, Len: 1, L: []api.Clip{one}}, {Kind: api.BackK}, {Kind: api.BackK, L: []api.Clip{one, one}},
		{Kind: api.BackK, Len: 1, L: []api.Clip{one}}, with(api.SpeedK, 2, 4, one), with(api.SpeedK, 0, 1, one), with(api.SpeedK, 1, 65, one), with(api.SpeedK, 1, 2, rest(1<<23+1)), with(api.FadeK, 1, 1, one), with(api.FadeK, -1, 1, one), with(api.FadeK, 1<<62, 1<<62, one),
		join(), join(rest(1<<24), one), {Kind: api.LayK}, lay([]int{0}, one, one), lay([]int{-1}, one), lay([]int{1<<24 + 1}, one), lay([]int{1 << 24}, one), nested(17), many(257), join(one, api.Clip{}), {Kind: api.JoinK, At: []int{0}, L: []api.Clip{one}},
	} {
		n, e1 := Len(c)
		l, e2 := Takes(c)
		v, e3 := Samples(api.Pool{}, c, 1<<60, 0)
		if Check(c) != api.ErrClip || e1 != api.ErrClip || e2 != api.ErrClip || e3 != api.ErrClip || Valid(api.Pool{}, c) != api.ErrClip || n != 0 || l != nil || v != nil {
			t.Error(i)
		}
	}
	for i, x := range []struct {
		c    api.Clip
		want int
	}{
		{one, 1}, {nested(16), 1}, {many(256), 255}, {with(api.SpeedK, 2, 1, rest(5)), 3}, {with(api.SpeedK, 1, 2, rest(1<<23)), 1<<24 - 1}, {lay([]int{5, 0}, one, rest(3)), 6}, {lay([]int{1<<24 - 1}, one), 1 << 24}, {with(api.FadeK, 2, 3, rest(5)), 5},
		{take(api.Digest{}, 1<<24, 1<<24), 1 << 24}, {cut(2, 3, rest(5)), 3},
	} {
		if n, e := Len(x.c); n != x.want || e != api.OK || Check(x.c) != api.OK {
			t.Error(i, n, e)
		}
	}
}

func TestTakes(t *testing.T) {
	p, d := pooled(t, []int{1, 2, 3}, []int{4})
	c := join(take(d[0], 0, 3), back(take(d[1], 0, 1)), lay([]int{0}, take(d[0], 1, 1)))
	l, e := Takes(c)
	want := []api.Digest{p.Takes[0].Digest, p.Takes[1].Digest}
	if e != api.OK || !slices.Equal(l, want) || Valid(p, c) != api.OK {
		t.Error(l, e, Valid(p, c))
	}
	if l, e := Takes(rest(3)); e != api.OK || len(l) != 0 || Valid(api.Pool{}, rest(3)) != api.OK {
		t.Error(l, e)
	}
	for i, x := range []struct {
		c    api.Clip
		want api.Errno
	}{{take(d[0], 1, 3), api.ErrClip}, {take(api.Digest{}, 0, 1), api.ErrMissing}, {join(take(d[0], 1, 3), take(api.Digest{}, 0, 1)), api.ErrClip}, {join(take(api.Digest{}, 0, 1), take(d[0], 1, 3)), api.ErrMissing}} {
		if e := Valid(p, x.c); e != x.want {
			t.Error(i, e)
		}
	}
}

// slow calculates the samples of a clip as the chapter defines them.
func slow(p api.Pool, c api.Clip) []int {
	var x []int
	switch c.Kind {
	case api.TakeK:
		data, _ := pool.Look(p, c.Take)
		for i := range c.Len {
			v := 0
			if c.From+i < len(data) {
				v = data[c.From+i]
			}
			x = append(x, v)
		}
		return x
	case api.RestK:
		return make([]int, c.Len)
	case api.JoinK:
		for _, y := range c.L {
			x = append(x, slow(p, y)...)
		}
		return x
	case api.LayK:
		n, _ := Len(c)
		x = make([]int, n)
		for k, y := range c.L {
			copy(x[c.At[k]:], slow(p, y))
		}
		return x
	}
	whole := slow(p, c.L[0])
	switch c.Kind {
	case api.CutK:
		return whole[c.From : c.From+c.Len]
	case api.BackK:
		slices.Reverse(whole)
		return whole
	case api.SpeedK:
		return speeded(whole, c.A, c.B)
	}
	return faded(whole, c.A, c.B)
}

func TestWindows(t *testing.T) {
	p, d := pooled(t, []int{5, -7, 1 << 30, 3, -1 << 31, 8, 9, 2}, []int{70, 71, 72})
	r := &fixtures.Random{State: 1}
	for range 400 {
		c := r.Clip(d, 4)
		if Check(c) != api.OK {
			t.Fatal(c)
		}
		want := slow(p, c)
		from, n := r.Intn(len(want)+4)-2, r.Intn(len(want)+4)
		v, e := Samples(p, c, from, n)
		for i := range v {
			w := 0
			if k := from + i; k >= 0 && k < len(want) {
				w = want[k]
			}
			if e != api.OK || v[i] != w {
				t.Fatal(c, from, n, v, want)
			}
		}
	}
}

func TestNothing(t *testing.T) {
	if x, e := Samples(api.Pool{}, rest(3), 1, 0); e != api.OK || len(x) != 0 {
		t.Error(x, e)
	}
}
