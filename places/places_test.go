package places

import (
	"slices"
	"testing"

	"soundpost/api"
	"soundpost/clips"
	"soundpost/fixtures"
	"soundpost/normal"
	"soundpost/pool"
)

func rest(n int) api.Clip { return api.Clip{Kind: api.RestK, Len: n} }

func place(id, tick, off int, c api.Clip) api.Place {
	return api.Place{Id: id, Tick: tick, Off: off, Clip: c}
}

var two = []api.Tempo{{N: 2, D: 1}}

func TestCheck(t *testing.T) {
	fast := []api.Tempo{{N: 1 << 20, D: 1}}
	for i, x := range []struct {
		m    []api.Tempo
		l    []api.Place
		want api.Errno
	}{
		{nil, nil, api.ErrTempo}, {nil, make([]api.Place, 257), api.ErrTempo}, {two, make([]api.Place, 257), api.ErrLimit}, {two, nil, api.OK}, {two, []api.Place{place(0, 0, 0, rest(1))}, api.ErrPlace}, {two, []api.Place{place(1, -1, 0, rest(1))}, api.ErrPlace},
		{two, []api.Place{place(1, 1<<24+1, 0, rest(1))}, api.ErrPlace}, {two, []api.Place{place(1, 0, 1<<24+1, rest(1))}, api.ErrPlace}, {two, []api.Place{place(1, 1<<24, -1<<24-1, rest(1))}, api.ErrPlace}, {two, []api.Place{place(1, 0, 0, rest(0))}, api.ErrClip},
		{two, []api.Place{place(1, 0, 0, rest(1)), place(1, 0, 0, rest(1))}, api.ErrPlace}, {two, []api.Place{place(2, 0, 0, rest(1)), place(1, 0, 0, rest(0))}, api.ErrPlace}, {two, []api.Place{place(1, 1, -3, rest(1))}, api.ErrPlace}, {two, []api.Place{place(1, 1, -2, rest(1))}, api.OK},
		{fast, []api.Place{place(1, 1<<24, 0, rest(1))}, api.ErrRat}, {fast, []api.Place{place(1, 1<<24, 0, rest(0))}, api.ErrClip}, {fast, []api.Place{place(1, 1<<20, 1<<24, rest(1))}, api.OK}, {two, []api.Place{place(1, 0, 0, rest(0)), place(1, 0, 0, rest(1))}, api.ErrClip},
	} {
		if e := Check(x.m, x.l); e != x.want {
			t.Error(i, e)
		}
		if s, e := Samples(api.Pool{}, x.m, x.l, -1, 0); e != x.want && x.want != api.OK || s != nil {
			t.Error(i, e)
		}
		if len(x.l) == 1 {
			from, to, e := Extent(x.m, x.l[0])
			if e != x.want || e != api.OK && (from != 0 || to != 0) {
				t.Error(i, e)
			}
		}
	}
	if from, to, e := Extent(two, place(7, 3, -1, rest(4))); from != 5 || to != 9 || e != api.OK {
		t.Error(from, to, e)
	}
	for i, x := range []struct {
		from, n int
		want    api.Errno
	}{{-1, 0, api.ErrArg}, {1<<40 + 1, 0, api.ErrArg}, {0, -1, api.ErrArg}, {0, 65537, api.ErrLimit}, {1 << 40, 65536, api.OK}} {
		if s, e := Samples(api.Pool{}, two, nil, x.from, x.n); e != x.want || e == api.OK && len(s) != x.n {
			t.Error(i, e)
		}
	}
}

func TestSamples(t *testing.T) {
	var p api.Pool
	var names []api.Digest
	for _, data := range [][]int{{1}, {2}, {3, 4, 5, 6, 7, 8}, {-9, -10}} {
		x, d, _ := pool.Put(p, data)
		p, names = x, append(names, d)
	}
	take := func(i, n int) api.Clip { return api.Clip{Kind: api.TakeK, Take: names[i], Len: n} }
	if x, e := Samples(p, two, []api.Place{place(1, 0, 0, take(0, 1)), place(2, 0, 0, take(1, 1))}, 0, 2); e != api.OK || !slices.Equal(x, []int{2, 0}) {
		t.Error(x, e)
	}
	if x, e := Samples(p, two, []api.Place{place(3, 1, 1, take(2, 6)), place(9, 2, 1, take(3, 2))}, 2, 9); e != api.OK || !slices.Equal(x, []int{0, 3, 4, -9, -10, 7, 8, 0, 0}) {
		t.Error(x, e)
	}
	r := &fixtures.Random{State: 1}
	for range 200 {
		var l []api.Place
		for id := range r.Intn(6) {
			l = append(l, place(id+1, r.Intn(8), r.Intn(4), r.Clip(names, 3)))
		}
		from, n := r.Intn(12), r.Intn(30)
		x, e := Samples(p, two, l, from, n)
		for i := range x {
			want := 0
			for _, y := range l {
				a, b, _ := Extent(two, y)
				if at := from + i; a <= at && at < b {
					v, _ := clips.Samples(p, y.Clip, at-a, 1)
					want = v[0]
				}
			}
			if e != api.OK || x[i] != want {
				t.Fatal(l, from+i, x[i], want)
			}
		}
		if len(l) == 0 {
			continue
		}
		cutInTwo(t, r, p, l, from, x)
	}
}

// cutInTwo divides a place: both parts sound like the whole.
func cutInTwo(t *testing.T, r *fixtures.Random, p api.Pool, l []api.Place, from int, want []int) {
	t.Helper()
	k := r.Intn(len(l))
	n, _ := clips.Len(l[k].Clip)
	if n < 2 {
		return
	}
	at := 1 + r.Intn(n-1)
	a, _ := normal.Cut(l[k].Clip, 0, at)
	b, _ := normal.Cut(l[k].Clip, at, n-at)
	parts := slices.Concat(l[:k], []api.Place{place(0, l[k].Tick, l[k].Off, a), place(0, l[k].Tick, l[k].Off+at, b)}, l[k+1:])
	for i := range parts {
		parts[i].Id = i + 1
	}
	if x, e := Samples(p, two, parts, from, len(want)); e != api.OK || !slices.Equal(x, want) {
		t.Fatal("cut in two", x, want, e)
	}
}

func TestGreatest(t *testing.T) {
	var l []api.Place
	for id := range 256 {
		l = append(l, place(id+1, 0, id, rest(1)))
	}
	if e := Check(two, l); e != api.OK {
		t.Error(e)
	}
}
