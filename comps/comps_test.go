package comps

import (
	"slices"
	"testing"

	"soundpost/api"
	"soundpost/clips"
	"soundpost/fades"
	"soundpost/fixed"
	"soundpost/fixtures"
	"soundpost/pool"
)

func rest(n int) api.Clip { return api.Clip{Kind: api.RestK, Len: n} }

func part(from, lane, cross int) api.Part { return api.Part{From: from, Lane: lane, Cross: cross} }

func lanes(t *testing.T, many, n int) (p api.Pool, l []api.Clip) {
	t.Helper()
	r := &fixtures.Random{State: uint64(n)}
	for range many {
		data := make([]int, n)
		for i := range data {
			data[i] = r.Sample()
		}
		x, d, e := pool.Put(p, data)
		if e != api.OK {
			t.Fatal(e)
		}
		p, l = x, append(l, api.Clip{Kind: api.TakeK, Take: d, Len: n})
	}
	return p, l
}

func TestCheck(t *testing.T) {
	two := []api.Clip{rest(10), rest(10)}
	ok := []api.Part{part(0, 0, 0), part(4, 1, 3), part(8, 0, 2)}
	for i, c := range []api.Comp{
		{}, {Lanes: two}, {Parts: ok}, {Lanes: []api.Clip{rest(10), rest(9)}, Parts: ok[:1]}, {Lanes: slices.Repeat(two, 9), Parts: ok[:1]}, {Lanes: []api.Clip{{}}, Parts: ok[:1]}, {Lanes: two, Parts: ok[1:]},
		{Lanes: two, Parts: []api.Part{part(0, 2, 0)}}, {Lanes: two, Parts: []api.Part{part(0, -1, 0)}}, {Lanes: two, Parts: []api.Part{part(0, 0, 1)}}, {Lanes: two, Parts: []api.Part{part(0, 0, 0), part(10, 1, 0)}}, {Lanes: two, Parts: []api.Part{part(0, 0, 0), part(0, 1, 0)}},
		{Lanes: two, Parts: []api.Part{part(0, 0, 0), part(3, 1, 4)}}, {Lanes: two, Parts: []api.Part{part(0, 0, 0), part(7, 1, 4)}}, {Lanes: two, Parts: []api.Part{part(0, 0, 0), part(5, 1, -1)}}, {Lanes: two, Parts: []api.Part{part(0, 0, 0), part(3, 1, 3), part(5, 0, 0)}},
		{Lanes: two, Parts: []api.Part{part(0, 0, 0), part(5, 1, 0), part(4, 0, 0)}},
	} {
		x, e1 := Samples(api.Pool{}, c, 0, -1)
		y, e2 := Clip(c)
		z, e3 := Choose(c, -1, 0, 0, 0)
		if Check(c) != api.ErrComp || e1 != api.ErrComp || e2 != api.ErrComp || e3 != api.ErrComp || x != nil || y.Kind != 0 || z.Lanes != nil {
			t.Error(i)
		}
	}
	c := api.Comp{Lanes: two, Parts: ok}
	if Check(c) != api.OK {
		t.Error("valid")
	}
	if x, e := Clip(c); e != api.ErrComp || x.Kind != 0 {
		t.Error(e)
	}
	for i, x := range []struct {
		from, n int
		want    api.Errno
	}{{-1<<40 - 1, 0, api.ErrArg}, {1<<40 + 1, 0, api.ErrArg}, {0, -1, api.ErrArg}, {0, 65537, api.ErrLimit}, {-1 << 40, 3, api.OK}, {1 << 40, 3, api.OK}} {
		if y, e := Samples(api.Pool{}, c, x.from, x.n); e != x.want || e != api.OK && y != nil {
			t.Error(i, e)
		}
	}
}

func TestClip(t *testing.T) {
	p, l := lanes(t, 2, 10)
	c := api.Comp{Lanes: l, Parts: []api.Part{part(0, 1, 0), part(4, 0, 0), part(9, 1, 0)}}
	x, e := Clip(c)
	if e != api.OK || x.Kind != api.JoinK || len(x.L) != 3 || x.L[1].From != 4 || x.L[1].Len != 5 {
		t.Fatal(x, e)
	}
	a, _ := clips.Samples(p, x, 0, 10)
	if b, _ := Samples(p, c, 0, 10); !slices.Equal(a, b) {
		t.Error(a, b)
	}
	if x, e := Clip(api.Comp{Lanes: l[:1], Parts: c.Parts[1:2]}); e != api.ErrComp {
		t.Error(x, e)
	}
	var many []api.Part
	for i := range 200 {
		many = append(many, part(i, i%2, 0))
	}
	if x, e := Clip(api.Comp{Lanes: []api.Clip{rest(300), rest(300)}, Parts: many}); e != api.ErrClip || x.Kind != 0 {
		t.Error(e)
	}
}

// slow calculates a sample of a comp as the chapter defines it.
func slow(p api.Pool, c api.Comp, t int) int {
	n, _ := clips.Len(c.Lanes[0])
	if t < 0 || t >= n {
		return 0
	}
	last := 0
	for i, x := range c.Parts {
		if x.From <= t {
			last = i
		}
	}
	v, _ := clips.Samples(p, c.Lanes[c.Parts[last].Lane], t, 1)
	if last+1 == len(c.Parts) || c.Parts[last+1].From > t+c.Parts[last+1].Cross {
		return v[0]
	}
	next := c.Parts[last+1]
	i := t - (next.From - next.Cross)
	out, _ := fades.Gain(next.Cross-1-i, next.Cross)
	in, _ := fades.Gain(i, next.Cross)
	w, _ := clips.Samples(p, c.Lanes[next.Lane], t, 1)
	return fixed.Add(fixed.Mul(v[0], out), fixed.Mul(w[0], in))
}

func TestChoose(t *testing.T) {
	one := api.Comp{Lanes: []api.Clip{rest(30), rest(30)}, Parts: []api.Part{part(0, 0, 0)}}
	x, e := Choose(one, 10, 20, 1, 3)
	if e != api.OK || !slices.Equal(x.Parts, []api.Part{part(0, 0, 0), part(10, 1, 3), part(20, 0, 3)}) {
		t.Error(x, e)
	}
	for i, c := range []struct{ from, to, lane, cross int }{{5, 5, 0, 0}, {-1, 5, 0, 0}, {0, 31, 0, 0}, {0, 5, 2, 0}, {0, 5, -1, 0}, {0, 5, 0, -1}} {
		if x, e := Choose(one, c.from, c.to, c.lane, c.cross); e != api.ErrArg || x.Lanes != nil {
			t.Error(i, e)
		}
	}
	if x, e := Choose(x, 0, 30, 1, 7); e != api.OK || !slices.Equal(x.Parts, []api.Part{part(0, 1, 0)}) {
		t.Error(x, e)
	}
	if x, e := Choose(one, 0, 4, 1, 9); e != api.OK || !slices.Equal(x.Parts, []api.Part{part(0, 1, 0), part(4, 0, 4)}) {
		t.Error(x, e)
	}
	if x, e := Choose(x, 12, 18, 0, 100); e != api.OK || !slices.Equal(x.Parts, []api.Part{part(0, 0, 0), part(10, 1, 2), part(12, 0, 2), part(18, 1, 2), part(20, 0, 2)}) {
		t.Error(x, e)
	}
	p, l := lanes(t, 3, 40)
	r := &fixtures.Random{State: 2}
	for range 200 {
		c := api.Comp{Lanes: l, Parts: []api.Part{part(0, r.Intn(3), 0)}}
		for range 8 {
			from := r.Intn(40)
			to, lane, cross := from+1+r.Intn(40-from), r.Intn(3), r.Intn(6)
			x, e := Choose(c, from, to, lane, cross)
			if e != api.OK || Check(x) != api.OK {
				t.Fatal(c, from, to, lane, cross, x)
			}
			for k := range 40 {
				want := heard(c, k)
				if from <= k && k < to {
					want = lane
				}
				if heard(x, k) != want {
					t.Fatal(c, from, to, lane, x, k)
				}
			}
			again, _ := Choose(x, from, to, lane, cross)
			if !slices.Equal(again.Parts, x.Parts) {
				t.Fatal("again", x.Parts, again.Parts, from, to, lane, cross)
			}
			c = x
		}
		from, n := r.Intn(45)-3, r.Intn(45)
		got, e := Samples(p, c, from, n)
		for i := range got {
			if want := slow(p, c, from+i); e != api.OK || got[i] != want {
				t.Fatal(c.Parts, from+i, got[i], want)
			}
		}
	}
}

func heard(c api.Comp, t int) int {
	lane := 0
	for _, p := range c.Parts {
		if p.From <= t {
			lane = p.Lane
		}
	}
	return lane
}

func TestGreatestBlock(t *testing.T) {
	c := api.Comp{Lanes: []api.Clip{rest(10)}, Parts: []api.Part{part(0, 0, 0)}}
	for _, n := range []int{0, 65536} {
		if x, e := Samples(api.Pool{}, c, 5, n); e != api.OK || len(x) != n {
			t.Error(n, e)
		}
	}
}
