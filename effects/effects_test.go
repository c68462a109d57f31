package effects_test

import (
	"slices"
	"testing"

	"soundpost/api"
	"soundpost/effects"
	"soundpost/fixtures"
	"soundpost/render"
	"soundpost/songs"
)

var flat = []api.Tempo{{N: 2, D: 1}}

func rest(id, tick, n int) api.Place {
	return api.Place{Id: id, Tick: tick, Clip: api.Clip{Kind: api.RestK, Len: n}}
}

// base is a track, a processor with the latency 1 and the tail 2, and an output.
func base() api.Session {
	return api.Session{
		Tempo: flat, Procs: fixtures.Resolve("processor p latency 1 tail 2 { param a from 0 to 9; line d 2 from -2147483648 to 2147483647; push d = in(1); out tap(d, 1); } processor q latency 0 tail forever { out in(0); }"),
		Params: []api.Param{{Id: 5}, {Id: 6}, {Id: 7, Knots: []api.Knot{{Shape: 1}}}}, Links: []api.Link{{From: 5, To: 6, Num: 1, Den: 1}},
		Nodes:  []api.Node{{Id: 1, Kind: api.TrackN, Places: []api.Place{rest(3, 0, 3)}}, {Id: 2, Kind: api.ProcN, Params: []int{6}}, {Id: 4, Kind: api.OutN}, {Id: 8, Kind: api.BusN}},
		Routes: []api.Route{{From: 1, To: 2}, {From: 1, To: 8, Gain: 7}, {From: 2, To: 4}, {From: 8, To: 8, Delay: 5}},
	}
}

func TestOwn(t *testing.T) {
	all := func(ids ...int) (l []api.Effect) {
		for _, id := range ids {
			l = append(l, api.Effect{Node: id, To: 1 << 40})
		}
		return l
	}
	one := func(node, from, to int) []api.Effect { return []api.Effect{{Node: node, From: from, To: to}} }
	for i, x := range []struct {
		edit func(*api.Session)
		want []api.Effect
	}{
		{func(s *api.Session) {}, nil}, {func(s *api.Session) { s.Nodes = append(s.Nodes, api.Node{Id: 9, Kind: api.BusN}) }, all(9)}, {func(s *api.Session) { s.Params[0].Value = 3 }, all(2)}, {func(s *api.Session) { s.Params[1].Value = 3 }, nil},
		{func(s *api.Session) { s.Params[2].Value = 3 }, all(8)}, {func(s *api.Session) { s.Params[2].Knots = nil }, all(8)}, {func(s *api.Session) { s.Links[0].Add = 3 }, all(2)}, {func(s *api.Session) { s.Links = nil }, all(2)}, {func(s *api.Session) { s.Links[0].From = 7 }, all(2)},
		{func(s *api.Session) { s.Tempo = []api.Tempo{{N: 2, D: 1}, {Tick: 50, N: 1, D: 1}} }, all(8)}, {func(s *api.Session) { s.Nodes[0].Places = append(s.Nodes[0].Places, rest(9, 5, 4)) }, one(1, 10, 14)}, {func(s *api.Session) { s.Nodes[0].Places = nil }, one(1, 0, 3)},
		{func(s *api.Session) { s.Nodes[0].Places = []api.Place{rest(3, 4, 3)} }, one(1, 0, 11)}, {func(s *api.Session) { s.Nodes[0].Places = []api.Place{rest(3, 0, 4)} }, one(1, 0, 4)}, {func(s *api.Session) { s.Nodes[0].Places = []api.Place{rest(4, 0, 3)} }, one(1, 0, 3)},
		{func(s *api.Session) { s.Nodes[1].Params = []int{0} }, all(2)}, {func(s *api.Session) {
			s.Procs = append(fixtures.Resolve("processor z latency 0 tail 0 { out 1; }"), s.Procs...)
			s.Nodes[1].Proc = 1
		}, nil}, {func(s *api.Session) { s.Procs[0].Tail = 9 }, all(2)},
		{func(s *api.Session) { s.Routes[2].Delay = 1 }, all(4)}, {func(s *api.Session) { s.Routes = s.Routes[1:] }, all(2)}, {func(s *api.Session) { s.Routes[0].Gain = 5 }, all(2)}, {func(s *api.Session) { s.Nodes[2].Kind = api.BusN }, all(4)},
		{func(s *api.Session) { s.Nodes = s.Nodes[:3]; s.Routes = []api.Route{s.Routes[0], s.Routes[2]} }, nil},
	} {
		a, b := base(), base()
		x.edit(&b)
		if l, e := effects.Own(a, b); e != api.OK || !slices.Equal(l, x.want) {
			t.Error(i, l, e)
		}
	}
}

// TestBehind has places behind the timeline.
func TestBehind(t *testing.T) {
	far := func(off int) api.Place {
		return api.Place{Id: 9, Tick: 1 << 24, Off: off, Clip: api.Clip{Kind: api.RestK, Len: 4}}
	}
	track := func(l ...api.Place) api.Session {
		return api.Session{Tempo: []api.Tempo{{N: 1 << 16, D: 1}}, Nodes: []api.Node{{Id: 1, Kind: api.TrackN, Places: l}}}
	}
	for i, x := range []struct {
		a, b api.Session
		want []api.Effect
	}{
		{track(), track(far(5)), nil}, {track(), track(far(0)), nil}, {track(), track(far(-2)), []api.Effect{{Node: 1, From: 1<<40 - 2, To: 1 << 40}}}, {track(), track(rest(1, 0, 3), far(5)), []api.Effect{{Node: 1, From: 0, To: 1 << 40}}},
	} {
		if l, e := effects.Own(x.a, x.b); e != api.OK || !slices.Equal(l, x.want) {
			t.Error(i, l, e)
		}
	}
}

func TestEffects(t *testing.T) {
	a, b := base(), base()
	b.Nodes[0].Places = append(b.Nodes[0].Places, rest(9, 5, 4))
	if l, e := effects.Effects(a, b); e != api.OK || !slices.Equal(l, []api.Effect{{Node: 1, From: 10, To: 14}, {Node: 2, From: 9, To: 16}, {Node: 4, From: 9, To: 16}, {Node: 8, From: 10, To: 1 << 40}}) {
		t.Error(l, e)
	}
	b.Nodes[1].Proc, b.Nodes[1].Params = 1, nil
	a.Nodes[1].Proc, a.Nodes[1].Params = 1, nil
	if l, e := effects.Effects(a, b); e != api.OK || !slices.Equal(l[1:3], []api.Effect{{Node: 2, From: 10, To: 1 << 40}, {Node: 4, From: 10, To: 1 << 40}}) {
		t.Error(l, e)
	}
	if l, e := effects.Effects(a, a); e != api.OK || l != nil {
		t.Error(l, e)
	}
	for _, f := range []func(a, b api.Session) ([]api.Effect, api.Errno){effects.Own, effects.Effects} {
		if l, e := f(api.Session{}, a); e != api.ErrSession || l != nil {
			t.Error(e)
		}
		if l, e := f(a, api.Session{}); e != api.ErrSession || l != nil {
			t.Error(e)
		}
	}
}

// TestSound compares what is rendered outside of the effects.
func TestSound(t *testing.T) {
	r := &fixtures.Random{State: 1}
	outside := 0
	for range 80 {
		a, p := songs.Make(r, songs.Options{Nodes: 4, Finite: r.Intn(2) == 0})
		b := songs.Edit(r, a)
		l, e := effects.Effects(a, b)
		if e != api.OK {
			t.Fatal(e)
		}
		for _, n := range b.Nodes {
			x, e1 := render.Node(a, p, n.Id, 0, 70)
			y, e2 := render.Node(b, p, n.Id, 0, 70)
			if e1 != api.OK {
				continue
			}
			for t0 := range y {
				in := slices.ContainsFunc(l, func(f api.Effect) bool { return f.Node == n.Id && f.From <= t0 && t0 < f.To })
				if !in {
					outside++
				}
				if e2 != api.OK || !in && x[t0] != y[t0] {
					t.Fatal(n.Id, t0, l)
				}
			}
		}
	}
	if outside < 5000 {
		t.Error("few samples are compared", outside)
	}
}
