package transport

import (
	"slices"
	"testing"

	"soundpost/api"
	"soundpost/fixtures"
)

func at(at, kind, a, b int) api.Order { return api.Order{At: at, Kind: kind, A: a, B: b} }

func span(engine, n, song int, roll, record bool) api.Span {
	return api.Span{Engine: engine, Len: n, Song: song, Roll: roll, Record: record}
}

func TestCheck(t *testing.T) {
	for i, x := range []struct {
		l    []api.Order
		want api.Errno
	}{
		{nil, api.OK}, {make([]api.Order, 257), api.ErrLimit}, {slices.Repeat([]api.Order{at(0, 1, 0, 0)}, 256), api.OK}, {[]api.Order{at(0, 4, 5, 5)}, api.ErrTransport}, {[]api.Order{at(0, 4, 0, 1<<40)}, api.OK}, {[]api.Order{at(0, 4, 0, 1<<40+1)}, api.ErrTransport}, {[]api.Order{at(0, 6, -1, 3)}, api.ErrTransport},
		{[]api.Order{at(0, 0, 0, 0)}, api.ErrTransport}, {[]api.Order{at(0, 7, 0, 0)}, api.ErrTransport}, {[]api.Order{at(-1, 1, 0, 0)}, api.ErrTransport}, {[]api.Order{at(1<<40+1, 1, 0, 0)}, api.ErrTransport}, {[]api.Order{at(5, 1, 0, 0), at(4, 1, 0, 0)}, api.ErrTransport}, {[]api.Order{at(0, 1, 1, 0)}, api.ErrTransport}, {[]api.Order{at(0, 2, 0, 1)}, api.ErrTransport},
		{[]api.Order{at(0, 3, 1<<40+1, 0)}, api.ErrTransport}, {[]api.Order{at(0, 3, 1, 1)}, api.ErrTransport}, {[]api.Order{at(0, 3, 1<<40, 0)}, api.OK}, {[]api.Order{at(0, 5, 1, 0)}, api.ErrTransport},
	} {
		_, _, _, e1 := Song(x.l, -1)
		s, e2 := Spans(x.l, -1)
		if Check(x.l) != x.want || x.want != api.OK && (e1 != x.want || e2 != x.want) || x.want == api.OK && (e1 != api.ErrArg || e2 != api.ErrArg) || s != nil {
			t.Error(i, Check(x.l), e1, e2)
		}
	}
	if _, e := Spans(nil, 1<<40+1); e != api.ErrArg {
		t.Error(e)
	}
	if _, _, _, e := Song(nil, 1<<40+1); e != api.ErrArg {
		t.Error(e)
	}
}

func TestSong(t *testing.T) {
	play := at(0, api.PlayR, 0, 0)
	for i, x := range []struct {
		l              []api.Order
		at, pos        int
		rolls, records bool
	}{
		{[]api.Order{at(2, 1, 0, 0)}, 4, 2, true, false}, {[]api.Order{at(2, 1, 0, 0)}, 1, 0, false, false}, {[]api.Order{at(3, 3, 7, 0)}, 2, 0, false, false}, {[]api.Order{at(3, 3, 7, 0)}, 3, 7, false, false}, {[]api.Order{play, at(6, 4, 2, 4)}, 9, 9, true, false}, {[]api.Order{play, at(0, 4, 2, 5)}, 1 << 40, 2 + (1<<40-5)%3, true, false},
		{[]api.Order{play, at(0, 6, 2, 3)}, 2, 2, true, true}, {[]api.Order{at(0, 6, 0, 3)}, 2, 0, false, false}, {[]api.Order{play, at(0, 4, 0, 4), at(9, 5, 0, 0)}, 20, 12, true, false}, {[]api.Order{play, at(5, 2, 0, 0)}, 9, 5, false, false}, {[]api.Order{play, at(4, 4, 0, 4)}, 5, 5, true, false}, {nil, 1 << 40, 0, false, false},
	} {
		if pos, roll, record, e := Song(x.l, x.at); pos != x.pos || roll != x.rolls || record != x.records || e != api.OK {
			t.Error(i, pos, roll, record, e)
		}
	}
}

func TestSpans(t *testing.T) {
	play := at(0, api.PlayR, 0, 0)
	for i, x := range []struct {
		l    []api.Order
		n    int
		want []api.Span
	}{
		{nil, 5, []api.Span{span(0, 5, 0, false, false)}}, {nil, 0, nil}, {[]api.Order{play, at(0, 4, 0, 4)}, 10, []api.Span{span(0, 4, 0, true, false), span(4, 4, 0, true, false), span(8, 2, 0, true, false)}}, {[]api.Order{play, at(0, 6, 2, 3)}, 5, []api.Span{span(0, 2, 0, true, false), span(2, 1, 2, true, true), span(3, 2, 3, true, false)}},
		{[]api.Order{play, at(3, 3, 3, 0), at(5, 5, 0, 0)}, 8, []api.Span{span(0, 8, 0, true, false)}}, {[]api.Order{at(3, 2, 0, 0), at(4, 1, 0, 0)}, 6, []api.Span{span(0, 4, 0, false, false), span(4, 2, 0, true, false)}}, {[]api.Order{play}, 1 << 40, []api.Span{span(0, 1<<40, 0, true, false)}},
	} {
		if s, e := Spans(x.l, x.n); e != api.OK || !slices.Equal(s, x.want) {
			t.Error(i, s, e)
		}
	}
	loop := []api.Order{play, at(0, 4, 0, 1)}
	if s, e := Spans(loop, 65536); e != api.OK || len(s) != 65536 {
		t.Error(len(s), e)
	}
	if s, e := Spans(loop, 1<<40); e != api.ErrLimit || s != nil {
		t.Error(len(s), e)
	}
}

// TestAgree compares spans, Song, and a transport that goes on sample by sample.
func TestAgree(t *testing.T) {
	r := &fixtures.Random{State: 1}
	for range 300 {
		var l []api.Order
		now := 0
		for range r.Intn(9) {
			now += r.Intn(6)
			o := at(now, 1+r.Intn(6), 0, 0)
			switch o.Kind {
			case api.LocateR:
				o.A = r.Intn(12)
			case api.LoopR, api.PunchR:
				o.A = r.Intn(9)
				o.B = o.A + 1 + r.Intn(6)
			}
			l = append(l, o)
		}
		spans, e := Spans(l, 50)
		if e != api.OK {
			t.Fatal(e)
		}
		d, table, k := deck{}, orders(), 0
		for m := range 50 {
			for _, o := range l {
				if o.At == m {
					d = table[o.Kind].act(d, o)
				}
			}
			if m == spans[k].Engine+spans[k].Len {
				k++
			}
			pos := spans[k].Song
			if spans[k].Roll {
				pos += m - spans[k].Engine
			}
			p, roll, record, _ := Song(l, m)
			if p != d.pos || pos != d.pos || roll != d.roll || spans[k].Roll != d.roll || record != (d.roll && d.punch.contains(d.pos)) || spans[k].Record != record {
				t.Fatal(l, m, p, d, spans)
			}
			if d.roll {
				if d.pos++; d.loop.set && d.pos == d.loop.to {
					d.pos = d.loop.from
				}
			}
		}
		for i := 1; i < len(spans); i++ {
			if continues(spans[i-1], spans[i]) || spans[i].Engine != spans[i-1].Engine+spans[i-1].Len {
				t.Fatal(spans)
			}
		}
	}
}
