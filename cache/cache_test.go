package cache_test

import (
	"slices"
	"testing"

	"soundpost/api"
	"soundpost/cache"
	"soundpost/effects"
	"soundpost/equal"
	"soundpost/fixtures"
	"soundpost/songs"
)

var flat = []api.Tempo{{N: 1, D: 1}}

func same(a, b api.Cache) bool {
	return a.Size == b.Size && a.Len == b.Len && equal.Lists(a.Rows, b.Rows)
}

func TestMake(t *testing.T) {
	s := api.Session{Tempo: flat, Nodes: []api.Node{{Id: 1, Kind: api.BusN}, {Id: 4, Kind: api.OutN}}}
	for i, x := range []struct {
		size, many int
		want       api.Errno
	}{{0, 5, api.ErrArg}, {65537, 1, api.ErrLimit}, {65537, 0, api.ErrLimit}, {65536, 1, api.OK}, {65536, 2, api.ErrLimit}, {2, 1 << 62, api.ErrLimit}, {1 << 62, 1 << 62, api.ErrLimit}, {1, -1, api.ErrArg}, {3, 0, api.OK}, {-1, 99999999, api.ErrArg}} {
		c, e := cache.Make(s, api.Pool{}, x.size, x.many)
		if e != x.want || e == api.OK && (c.Size != x.size || c.Len != x.many || len(c.Rows) != 2 || len(c.Rows[1]) != x.size*x.many) || e != api.OK && !same(c, api.Cache{}) {
			t.Error(i, e)
		}
	}
	if _, e := cache.Make(api.Session{}, api.Pool{}, 0, 0); e != api.ErrSession {
		t.Error(e)
	}
}

func TestRead(t *testing.T) {
	s := api.Session{Tempo: flat, Nodes: []api.Node{{Id: 1, Kind: api.BusN}, {Id: 4, Kind: api.OutN}}}
	c := api.Cache{Size: 2, Len: 2, Rows: [][]int{{1, 2, 3, 4}, {5, 6, 7, 8}}}
	for i, x := range []struct {
		id, from, n int
		want        []int
		e           api.Errno
	}{
		{4, 1, 2, []int{6, 7}, api.OK}, {1, 4, 0, nil, api.OK}, {1, 0, 4, []int{1, 2, 3, 4}, api.OK}, {2, 0, 1, nil, api.ErrArg}, {1, -1, 1, nil, api.ErrArg}, {1, 0, -1, nil, api.ErrArg}, {1, 3, 2, nil, api.ErrArg}, {1, 1 << 62, 1 << 62, nil, api.ErrArg}, {1, 5, 0, nil, api.ErrArg},
	} {
		if l, e := cache.Read(c, s, x.id, x.from, x.n); e != x.e || !slices.Equal(l, x.want) {
			t.Error(i, l, e)
		}
	}
	for i, f := range []func(*api.Cache){
		func(c *api.Cache) { c.Size = 0 }, func(c *api.Cache) { c.Size = 65537 }, func(c *api.Cache) { c.Len = -1 }, func(c *api.Cache) { c.Len = 1 }, func(c *api.Cache) { c.Rows = c.Rows[:1] }, func(c *api.Cache) { c.Rows = [][]int{{1}, {2}} }, func(c *api.Cache) { *c = api.Cache{} },
		func(c *api.Cache) { c.Size, c.Len = 1<<16, 1<<48 },
	} {
		d := c
		f(&d)
		_, e1 := cache.Read(d, s, 9, -1, -1)
		x, done, e2 := cache.Update(d, s, s, api.Pool{})
		if e1 != api.ErrCache || e2 != api.ErrCache || done != nil || !same(x, api.Cache{}) {
			t.Error(i, e1, e2)
		}
	}
	_, e1 := cache.Read(c, api.Session{}, 1, 0, 0)
	_, _, e2 := cache.Update(api.Cache{}, api.Session{}, s, api.Pool{})
	_, _, e3 := cache.Update(api.Cache{}, s, api.Session{}, api.Pool{})
	if e1 != api.ErrSession || e2 != api.ErrSession || e3 != api.ErrSession {
		t.Error(e1, e2, e3)
	}
}

func TestUpdate(t *testing.T) {
	r := &fixtures.Random{State: 4}
	for range 25 {
		a, p := songs.Make(r, songs.Options{Nodes: 4, Finite: r.Intn(2) == 0})
		size := 1 + r.Intn(7)
		c, e := cache.Make(a, p, size, 8)
		if e != api.OK {
			t.Fatal(e)
		}
		if x, done, e := cache.Update(c, a, a, p); e != api.OK || len(done) != 0 || !same(x, c) {
			t.Fatal("no edit")
		}
		for range 4 {
			b := songs.Edit(r, a)
			x, done, e := cache.Update(c, a, b, p)
			want, _ := cache.Make(b, p, size, 8)
			if e != api.OK || !same(x, want) {
				t.Fatal("not the cache of the edited session", e)
			}
			l, _ := effects.Effects(a, b)
			var blocks [][2]int
			for _, f := range l {
				for k := range 8 {
					if f.From < (k+1)*size && k*size < f.To {
						blocks = append(blocks, [2]int{f.Node, k})
					}
				}
			}
			if !slices.Equal(done, blocks) {
				t.Fatal(done, blocks)
			}
			a, c = b, x
		}
	}
}

// TestUntouched keeps what is not touched, also if it is not what the node sounds like.
func TestUntouched(t *testing.T) {
	a := api.Session{Tempo: flat, Nodes: []api.Node{{Id: 1, Kind: api.BusN}, {Id: 4, Kind: api.OutN}}}
	b := a
	b.Nodes = []api.Node{{Id: 2, Kind: api.BusN}, {Id: 4, Kind: api.OutN}}
	c := api.Cache{Size: 2, Len: 1, Rows: [][]int{{1, 2}, {1 << 40, 6}}}
	x, done, e := cache.Update(c, a, b, api.Pool{})
	if e != api.OK || !equal.Lists(x.Rows, [][]int{{0, 0}, {1 << 40, 6}}) || !slices.Equal(done, [][2]int{{2, 0}}) {
		t.Error(x, done, e)
	}
}
