package starts_test

import (
	"testing"

	"soundpost/api"
	"soundpost/chunks"
	"soundpost/equal"
	"soundpost/fixtures"
	"soundpost/pipes"
	"soundpost/plan"
	"soundpost/pool"
	"soundpost/render"
	"soundpost/session"
	"soundpost/songs"
	"soundpost/starts"
)

var flat = []api.Tempo{{N: 1, D: 1}}

func made(routes []api.Route, kinds ...int) api.Session {
	s := api.Session{Tempo: flat, Routes: routes}
	s.Procs = fixtures.Resolve("processor p latency 0 tail 3 { line d 3 from -2147483648 to 2147483647; push d = in(0); out tap(d, 2); } processor q latency 0 tail forever { out in(0); }")
	for i, k := range kinds {
		n := api.Node{Id: i + 1, Kind: k}
		if k == 5 {
			n.Kind, n.Proc = api.ProcN, 1
		}
		s.Nodes = append(s.Nodes, n)
	}
	return s
}

func TestMemory(t *testing.T) {
	for i, x := range []struct {
		s    api.Session
		want int
	}{
		{made(nil), 0}, {made([]api.Route{{From: 1, To: 2, Delay: 5}, {From: 2, To: 3}}, api.TrackN, api.ProcN, api.OutN), 8}, {made([]api.Route{{From: 1, To: 2, Delay: 2}, {From: 2, To: 3, Delay: 3}}, api.TrackN, api.BusN, api.OutN), 5},
		{made([]api.Route{{From: 1, To: 1, Delay: 1}, {From: 1, To: 2}}, api.BusN, api.OutN), -1}, {made([]api.Route{{From: 1, To: 1, Delay: 1}}, api.BusN, api.OutN), 0}, {made([]api.Route{{From: 1, To: 2}}, 5, api.OutN), -1}, {made(nil, 5, api.OutN), 0},
		{made([]api.Route{{From: 1, To: 3}, {From: 1, To: 4, Delay: 4}, {From: 2, To: 3, Delay: 9}, {From: 3, To: 4}}, api.TrackN, api.ProcN, api.ProcN, api.OutN), 15}, {made([]api.Route{{From: 1, To: 2}, {From: 3, To: 2}}, 5, api.ProcN, api.TrackN, api.OutN), 0},
	} {
		if n, e := starts.Memory(x.s); n != x.want || e != api.OK {
			t.Error(i, n, e)
		}
	}
	if n, e := starts.Memory(api.Session{}); n != 0 || e != api.ErrSession {
		t.Error(e)
	}
	forever := made([]api.Route{{From: 1, To: 2}}, 5, api.OutN)
	for i, x := range []struct {
		s     api.Session
		at, n int
		want  api.Errno
	}{{api.Session{}, -1, -1, api.ErrSession}, {forever, -1, 3, api.ErrArg}, {forever, 1<<40 + 1, 3, api.ErrArg}, {forever, 0, -1, api.ErrArg}, {forever, 5, 65537, api.ErrLimit}, {forever, 5, 1, api.ErrForever}, {forever, 0, 5, api.OK}} {
		l, e := starts.From(x.s, api.Pool{}, x.at, x.n)
		if e != x.want || e == api.OK && len(l[0]) != x.n || e != api.OK && l != nil {
			t.Error(i, e)
		}
	}
}

// runIn cuts off what is before a run-in: a session that begins there, with all things moved to its beginning.
func TestFrom(t *testing.T) {
	p, d, _ := pool.Put(api.Pool{}, []int{5, -6, 7, 8, 9, 10, 11, 12})
	s := made([]api.Route{{From: 1, To: 2, Delay: 2}, {From: 1, To: 3}, {From: 2, To: 3}}, api.TrackN, api.ProcN, api.OutN)
	s.Nodes[0].Places = []api.Place{{Id: 1, Off: 20, Clip: api.Clip{Kind: api.TakeK, Take: d, Len: 8}}}
	if n, _ := starts.Memory(s); n != 5 {
		t.Fatal(n)
	}
	moved := s
	moved.Nodes = append([]api.Node{}, s.Nodes...)
	moved.Nodes[0].Places = []api.Place{{Id: 1, Clip: api.Clip{Kind: api.CutK, From: 2, Len: 6, L: []api.Clip{s.Nodes[0].Places[0].Clip}}}}
	got, e := starts.From(s, p, 27, 6)
	want, _ := render.Outs(moved, p, 5, 6)
	if e != api.OK || !equal.Lists(got, want) {
		t.Error(got, want, e)
	}
	r := &fixtures.Random{State: 3}
	for range 40 {
		s, p := songs.Make(r, songs.Options{Finite: true, Nodes: 5})
		if n, _ := starts.Memory(s); n < 0 {
			t.Fatal("endless")
		}
		at, n := r.Intn(40), r.Intn(20)
		got, e := starts.From(s, p, at, n)
		want, _ := render.Outs(s, p, at, n)
		if e != api.OK || !equal.Lists(got, want) {
			t.Fatal(got, want, e)
		}
	}
}

func TestNearest(t *testing.T) {
	l := []api.Snap{{At: 0}, {At: 16}, {At: 32}, {At: 16}, {At: -5}}
	for at, want := range map[int]int{20: 3, 15: 0, 32: 2, 99: 2, -1: 4, 0: 0} {
		if i, ok := starts.Nearest(l, at); i != want || !ok {
			t.Error(at, i, ok)
		}
	}
	if i, ok := starts.Nearest(l, -6); i != 0 || ok {
		t.Error(i, ok)
	}
	if i, ok := starts.Nearest(nil, 0); i != 0 || ok {
		t.Error(i, ok)
	}
}

// TestSnaps goes on from the nearest snap.
func TestSnaps(t *testing.T) {
	r := &fixtures.Random{State: 6}
	for range 10 {
		s, p := songs.Make(r, songs.Options{Nodes: 4})
		g, _ := session.Graph(s)
		made, _ := plan.Make(g)
		x, _ := chunks.Start(s, made)
		l := []api.Snap{x}
		for range 4 {
			_, x, _ = chunks.Render(s, p, made, x, 8)
			l = append(l, x)
		}
		i, _ := starts.Nearest(l, 21)
		out, _, e := chunks.Render(s, p, made, l[i], 14)
		want, _ := pipes.Run(s, p, made, 30)
		for k := range out {
			if e != api.OK || !equal.Lists([][]int{out[k]}, [][]int{want[k][16:]}) {
				t.Fatal(i, e)
			}
		}
	}
}

func TestGreatestBlock(t *testing.T) {
	if l, e := starts.From(made(nil, api.OutN), api.Pool{}, 1<<40, 65536); e != api.OK || len(l[0]) != 65536 {
		t.Error(e)
	}
}
