package freeze_test

import (
	"slices"
	"testing"

	"soundpost/api"
	"soundpost/fixtures"
	"soundpost/freeze"
	"soundpost/graph"
	"soundpost/pool"
	"soundpost/render"
	"soundpost/session"
	"soundpost/songs"
)

var flat = []api.Tempo{{N: 1, D: 1}}

func same(t *testing.T, a, b api.Session) bool {
	t.Helper()
	x, e := session.Digest(a)
	y, f := session.Digest(b)
	return e == api.OK && f == api.OK && x == y
}

func TestErrors(t *testing.T) {
	s := api.Session{Tempo: flat, Nodes: []api.Node{{Id: 1, Kind: api.TrackN}, {Id: 2, Kind: api.BusN}, {Id: 3, Kind: api.OutN}}, Routes: []api.Route{{From: 1, To: 2}, {From: 2, To: 3}}}
	for i, x := range []struct {
		s     api.Session
		p     api.Pool
		id, n int
		want  api.Errno
	}{
		{api.Session{}, api.Pool{}, 2, 1, api.ErrSession}, {s, api.Pool{}, 4, 1, api.ErrArg}, {s, api.Pool{}, 3, 0, api.ErrArg}, {s, api.Pool{}, 2, 65537, api.ErrArg}, {s, api.Pool{}, 1, 1, api.ErrFrozen}, {s, api.Pool{}, 3, 1, api.ErrFrozen},
		{s, api.Pool{Takes: []api.Take{{}}}, 2, 1, api.ErrPool}, {s, api.Pool{}, 2, 5, api.OK},
	} {
		y, p, e := freeze.Freeze(x.s, x.p, x.id, x.n)
		if e != x.want || e != api.OK && (y.Nodes != nil || p.Takes != nil) {
			t.Error(i, e)
		}
	}
	x, p, _ := freeze.Freeze(s, api.Pool{}, 2, 5)
	if n := x.Nodes[1]; n.Kind != api.TrackN || n.Id != 2 || len(n.Places) != 1 || n.Places[0].Id != 1 || n.Places[0].Clip.Len != 5 || len(x.Routes) != 1 || len(p.Takes) != 1 || !slices.Equal(p.Takes[0].Data, make([]int, 5)) || len(s.Routes) != 2 || s.Nodes[1].Kind != api.BusN {
		t.Error(x, p)
	}
	if y, _, e := freeze.Freeze(x, p, 2, 5); e != api.ErrFrozen || y.Nodes != nil {
		t.Error(e)
	}
	for i, c := range []struct {
		s, old api.Session
		id     int
		want   api.Errno
	}{
		{x, s, 2, api.OK}, {api.Session{}, s, 2, api.ErrSession}, {x, api.Session{}, 2, api.ErrSession}, {s, s, 2, api.ErrFrozen}, {x, s, 4, api.ErrFrozen}, {x, api.Session{Tempo: flat}, 2, api.ErrFrozen}, {x, s, 3, api.ErrFrozen},
		{api.Session{Tempo: flat, Nodes: x.Nodes[1:]}, s, 2, api.ErrSession},
	} {
		y, e := freeze.Thaw(c.s, c.old, c.id)
		if e != c.want || e == api.OK && !same(t, y, s) || e != api.OK && y.Nodes != nil {
			t.Error(i, e)
		}
	}
}

func TestAhead(t *testing.T) {
	s := api.Session{
		Tempo: flat, Procs: fixtures.Resolve("processor p latency 3 tail 0 { out in(3); } processor q latency 2 tail 0 { out in(1); }"),
		Nodes:  []api.Node{{Id: 1, Kind: api.ProcN}, {Id: 2, Kind: api.ProcN, Proc: 1}, {Id: 3, Kind: api.OutN}, {Id: 4, Kind: api.BusN}},
		Routes: []api.Route{{From: 1, To: 2}, {From: 2, To: 3}},
	}
	if n, e := freeze.Ahead(s); n != 5 || e != api.OK {
		t.Error(n, e)
	}
	if n, e := freeze.Ahead(api.Session{Tempo: flat}); n != 0 || e != api.OK {
		t.Error(n, e)
	}
	if n, e := freeze.Ahead(api.Session{}); n != 0 || e != api.ErrSession {
		t.Error(n, e)
	}
}

func TestConsequences(t *testing.T) {
	r := &fixtures.Random{State: 1}
	for range 40 {
		s, p := songs.Make(r, songs.Options{Nodes: 5})
		var inner []int
		for v, n := range s.Nodes {
			if n.Kind == api.BusN || n.Kind == api.ProcN {
				inner = append(inner, v)
			}
		}
		v := inner[r.Intn(len(inner))]
		id := s.Nodes[v].Id
		const n = 40
		x, q, e := freeze.Freeze(s, p, id, n)
		if e != api.OK || session.Check(x) != api.OK || pool.Check(q) != api.OK {
			t.Fatal(e)
		}
		a, _ := render.Node(s, p, id, 0, n)
		b, _ := render.Node(x, q, id, 0, n+5)
		if !slices.Equal(append(a, make([]int, 5)...), b) {
			t.Fatal("the frozen node")
		}
		ahead, _ := freeze.Ahead(s)
		c, _ := render.Outs(s, p, 0, max(0, n-ahead))
		d, _ := render.Outs(x, q, 0, max(0, n-ahead))
		for k := range c {
			if !slices.Equal(c[k], d[k]) {
				t.Fatal("an output")
			}
		}
		g, _ := session.Graph(s)
		reached, _ := graph.Reach(g, v)
		for w, node := range s.Nodes {
			a, _ := render.Node(s, p, node.Id, 0, 60)
			b, _ := render.Node(x, q, node.Id, 0, 60)
			if !slices.Contains(reached, w) && !slices.Equal(a, b) {
				t.Fatal("a node that is not reached")
			}
		}
		if y, e := freeze.Thaw(x, s, id); e != api.OK || !same(t, y, s) {
			t.Fatal("thawed", e)
		}
	}
}
