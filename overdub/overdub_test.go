package overdub

import (
	"slices"
	"testing"

	"soundpost/api"
	"soundpost/fixtures"
	"soundpost/places"
	"soundpost/pool"
)

func rolls(engine, n, song int) api.Span {
	return api.Span{Engine: engine, Len: n, Song: song, Roll: true, Record: true}
}

func laid(from, n, at, pass int) api.Laid { return api.Laid{From: from, Len: n, At: at, Pass: pass} }

func TestLay(t *testing.T) {
	loop := []api.Span{rolls(0, 4, 0), rolls(4, 4, 0)}
	on := []api.Span{rolls(0, 4, 0), rolls(4, 4, 4)}
	off := []api.Span{rolls(0, 4, 0), {Engine: 4, Len: 4, Song: 4, Roll: true}}
	stands := []api.Span{rolls(0, 4, 0), {Engine: 4, Len: 4, Song: 4, Record: true}, rolls(8, 2, 4)}
	for i, x := range []struct {
		l                 []api.Span
		start, n, in, out int
		want              []api.Laid
	}{
		{nil, 5, 5, 1, 1, nil}, {loop, 0, 8, 0, 0, []api.Laid{laid(0, 4, 0, 0), laid(4, 4, 0, 1)}}, {loop, 1, 8, 1, 0, []api.Laid{laid(0, 4, 0, 0), laid(4, 4, 0, 1)}}, {on, 0, 8, 0, 0, []api.Laid{laid(0, 8, 0, 0)}}, {off, 0, 8, 0, 0, []api.Laid{laid(0, 4, 0, 0)}},
		{[]api.Span{rolls(100, 1000, 0)}, 103, 10, 2, 3, []api.Laid{laid(2, 8, 0, 0)}}, {stands, 0, 20, 0, 0, []api.Laid{laid(0, 4, 0, 0), laid(8, 2, 4, 0)}}, {loop, 6, 9, 0, 0, []api.Laid{laid(0, 2, 2, 0)}}, {loop, 0, 0, 0, 0, nil}, {loop, 2, 4, 0, 0, []api.Laid{laid(0, 2, 2, 0), laid(2, 2, 0, 1)}},
		{[]api.Span{rolls(0, 2, 5), rolls(3, 2, 0), rolls(5, 2, 9)}, 0, 9, 0, 0, []api.Laid{laid(0, 2, 5, 0), laid(3, 2, 0, 1), laid(5, 2, 9, 1)}}, {[]api.Span{rolls(0, 2, 0), rolls(3, 2, 2)}, 0, 9, 0, 0, []api.Laid{laid(0, 2, 0, 0), laid(3, 2, 2, 0)}},
	} {
		if y, e := Lay(x.l, x.start, x.n, x.in, x.out); e != api.OK || !slices.Equal(y, x.want) {
			t.Error(i, y, e)
		}
	}
	for i, x := range []struct {
		l                 []api.Span
		start, n, in, out int
	}{
		{nil, -1, 0, 0, 0}, {nil, 1<<40 + 1, 0, 0, 0}, {nil, 0, -1, 0, 0}, {nil, 0, 1<<24 + 1, 0, 0}, {nil, 0, 0, -1, 0}, {nil, 0, 0, 1<<20 + 1, 0}, {nil, 0, 0, 0, -1}, {nil, 0, 0, 0, 1<<20 + 1}, {make([]api.Span, 65537), 0, 0, 0, 0}, {[]api.Span{rolls(0, 0, 0)}, 0, 0, 0, 0},
		{[]api.Span{rolls(-1, 1, 0)}, 0, 0, 0, 0}, {[]api.Span{rolls(0, 1, -1)}, 0, 0, 0, 0}, {[]api.Span{rolls(0, 1, 1<<40+1)}, 0, 0, 0, 0}, {[]api.Span{rolls(1<<40+1, 1, 0)}, 0, 0, 0, 0}, {[]api.Span{rolls(0, 1<<40+1, 0)}, 0, 0, 0, 0}, {[]api.Span{rolls(0, 3, 0), rolls(2, 3, 0)}, 0, 0, 0, 0},
	} {
		if y, e := Lay(x.l, x.start, x.n, x.in, x.out); e != api.ErrArg || y != nil {
			t.Error(i, y, e)
		}
	}
}

func TestAgain(t *testing.T) {
	l := []api.Span{rolls(0, 100, 0)}
	r := []api.Record{{Device: 1, From: 0, Known: 1, In: 2, Out: 3}, {Device: 1, From: 0, Known: 5, In: 4, Out: 4}}
	for i, x := range []struct {
		device, start, known int
		want                 []api.Laid
		e                    api.Errno
	}{{1, 20, 4, []api.Laid{laid(0, 10, 15, 0)}, api.OK}, {1, 20, 5, []api.Laid{laid(0, 10, 12, 0)}, api.OK}, {2, 20, 5, nil, api.ErrMissing}, {1, 20, 0, nil, api.ErrMissing}, {1, -1, 0, nil, api.ErrArg}, {16, 0, 0, nil, api.ErrArg}} {
		if y, e := Again(r, x.device, l, x.start, 10, x.known); e != x.e || !slices.Equal(y, x.want) {
			t.Error(i, y, e)
		}
	}
	if _, e := Again([]api.Record{{}}, 1, l, 0, 0, 0); e != api.ErrCalibrate {
		t.Error(e)
	}
	if _, e := Again(r, 1, l, 0, -1, 5); e != api.ErrArg {
		t.Error(e)
	}
}

func TestPlaces(t *testing.T) {
	d := api.Digest{3}
	x, e := Places([]api.Laid{laid(2, 8, 0, 0), laid(10, 1, 5, 3)}, d)
	if e != api.OK || len(x) != 2 || x[0].Id != 1 || x[1].Id != 2 || x[1].Off != 5 || x[1].Tick != 0 || x[0].Clip.Kind != api.TakeK || x[0].Clip.Take != d || x[0].Clip.From != 2 || x[0].Clip.Len != 8 {
		t.Error(x, e)
	}
	for i, p := range []api.Laid{laid(-1, 1, 0, 0), laid(1<<24+1, 1, 0, 0), laid(0, 0, 0, 0), laid(0, 1<<24+1, 0, 0), laid(0, 1, -1, 0), laid(0, 1, 1<<24+1, 0)} {
		if x, e := Places([]api.Laid{laid(0, 1, 0, 0), p}, d); e != api.ErrPlace || x != nil {
			t.Error(i, e)
		}
	}
	if x, e := Places(make([]api.Laid, 257), d); e != api.ErrLimit || x != nil {
		t.Error(e)
	}
}

// TestHeard compares parts and places with each sample of the recording.
func TestHeard(t *testing.T) {
	r := &fixtures.Random{State: 1}
	for range 200 {
		var l []api.Span
		engine := 0
		for range r.Intn(6) {
			engine += r.Intn(3)
			s := api.Span{Engine: engine, Len: 1 + r.Intn(6), Song: r.Intn(9), Roll: r.Intn(4) > 0, Record: r.Intn(4) > 0}
			l = append(l, s)
			engine += s.Len
		}
		start, n, in, out := r.Intn(9), 1+r.Intn(25), r.Intn(4), r.Intn(4)
		x, _ := Lay(l, start, n, in, out)
		later, _ := Lay(l, start+5, n, in+2, out+3)
		if !slices.Equal(x, later) {
			t.Fatal("later")
		}
		song := map[int]int{}
		for k := range n {
			at, h := -1, start+k-in-out
			for _, s := range l {
				if s.Roll && s.Record && s.Engine <= h && h < s.Engine+s.Len {
					at = s.Song + h - s.Engine
				}
			}
			got := -1
			for _, p := range x {
				if p.From <= k && k < p.From+p.Len {
					got = p.At + k - p.From
				}
			}
			if got != at {
				t.Fatal(l, k, got, at, x)
			}
			if at >= 0 {
				song[at] = k + 1
			}
		}
		data := make([]int, n)
		for k := range data {
			data[k] = k + 1
		}
		p, d, _ := pool.Put(api.Pool{}, data)
		placed, _ := Places(x, d)
		heard, e := places.Samples(p, []api.Tempo{{N: 1, D: 1}}, placed, 0, 30)
		for at, v := range heard {
			if e != api.OK || v != song[at] {
				t.Fatal(at, v, song[at], e)
			}
		}
	}
}

func TestGreatest(t *testing.T) {
	var l []api.Span
	for i := range 65536 {
		l = append(l, rolls(2*i, 1, 0))
	}
	if x, e := Lay(l, 0, 10, 0, 0); e != api.OK || len(x) != 5 {
		t.Error(x, e)
	}
	if x, e := Places(slices.Repeat([]api.Laid{laid(1<<24, 1<<24, 1<<24, 0)}, 256), api.Digest{}); e != api.OK || len(x) != 256 {
		t.Error(e)
	}
}
