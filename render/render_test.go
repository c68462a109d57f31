package render_test

import (
	"slices"
	"testing"

	"soundpost/api"
	"soundpost/equal"
	"soundpost/fixed"
	"soundpost/fixtures"
	"soundpost/meaning"
	"soundpost/places"
	"soundpost/pool"
	"soundpost/render"
	"soundpost/session"
	"soundpost/songs"
)

// ideal calculates signals as the chapter defines them, sample by sample.
type ideal struct {
	s      api.Session
	p      api.Pool
	known  map[[2]int]int
	states map[[2]int]api.State
}

func newIdeal(s api.Session, p api.Pool) *ideal {
	return &ideal{s, p, map[[2]int]int{}, map[[2]int]api.State{}}
}

func (x *ideal) node(id int) api.Node {
	for _, n := range x.s.Nodes {
		if n.Id == id {
			return n
		}
	}
	return api.Node{}
}

func (x *ideal) input(id, port, t int) int {
	if t < 0 {
		return 0
	}
	var l []int
	for _, r := range x.s.Routes {
		if r.To != id || r.Port != port {
			continue
		}
		gain := []int{api.Unity}
		if r.Gain != 0 {
			gain, _ = session.Values(x.s, r.Gain, t, 1)
		}
		l = append(l, fixed.Mul(x.output(r.From, t-r.Delay), gain[0]))
	}
	return fixed.Mix(l)
}

func (x *ideal) output(id, t int) int {
	if t < 0 {
		return 0
	}
	k := [2]int{id, t}
	if v, ok := x.known[k]; ok {
		return v
	}
	n := x.node(id)
	v := 0
	switch n.Kind {
	case api.TrackN:
		l, _ := places.Samples(x.p, x.s.Tempo, n.Places, t, 1)
		v = l[0]
	case api.ProcN:
		v = x.step(n, t)
	default:
		v = x.input(id, api.MainP, t)
	}
	x.known[k] = v
	return v
}

func (x *ideal) step(n api.Node, t int) int {
	p := x.s.Procs[n.Proc]
	state, _ := meaning.Start(p)
	if t > 0 {
		x.output(n.Id, t-1)
		state = x.states[[2]int{n.Id, t}]
	}
	var in, side []int
	for k := range p.Latency + 1 {
		in = append(in, x.input(n.Id, api.MainP, t+k))
		side = append(side, x.input(n.Id, api.SideP, t+k))
	}
	c, _ := session.Controls(x.s, n.Id, t, 1)
	out, next, e := meaning.Step(p, c[0], in, side, state)
	if e != api.OK {
		panic(e)
	}
	x.states[[2]int{n.Id, t + 1}] = next
	return out
}

var flat = []api.Tempo{{N: 1, D: 1}}

// simple is a track with 100, 200 and an output.
func simple(t *testing.T) (api.Session, api.Pool) {
	t.Helper()
	p, d, e := pool.Put(api.Pool{}, []int{100, 200})
	if e != api.OK {
		t.Fatal(e)
	}
	track := api.Node{Id: 1, Kind: api.TrackN, Places: []api.Place{{Id: 1, Clip: api.Clip{Kind: api.TakeK, Take: d, Len: 2}}}}
	return api.Session{Tempo: flat, Nodes: []api.Node{track, {Id: 2, Kind: api.OutN}}}, p
}

func TestExamples(t *testing.T) {
	s, p := simple(t)
	look := fixtures.Resolve("processor p latency 1 tail 0 { out in(1); }")
	for i, x := range []struct {
		edit func(*api.Session)
		want []int
	}{
		{func(s *api.Session) { s.Routes = []api.Route{{From: 1, To: 2}} }, []int{100, 200, 0}}, {func(s *api.Session) { s.Routes = []api.Route{{From: 1, To: 2, Delay: 1}} }, []int{0, 100, 200}}, {func(s *api.Session) {}, []int{0, 0, 0}},
		{func(s *api.Session) {
			s.Params, s.Routes = []api.Param{{Id: 9, Value: 32768}}, []api.Route{{From: 1, To: 2, Gain: 9}}
		}, []int{50, 100, 0}},
		{func(s *api.Session) {
			s.Procs, s.Nodes, s.Routes = look, append(s.Nodes[:2:2], api.Node{Id: 3, Kind: api.ProcN}), []api.Route{{From: 1, To: 3}, {From: 3, To: 2}}
		}, []int{200, 0, 0}},
		{func(s *api.Session) {
			s.Params, s.Nodes = []api.Param{{Id: 9, Value: 32768}}, append(s.Nodes[:2:2], api.Node{Id: 3, Kind: api.BusN})
			s.Routes = []api.Route{{From: 1, To: 3}, {From: 3, To: 2}, {From: 3, To: 3, Gain: 9, Delay: 1}}
		}, []int{100, 250, 125}},
	} {
		c := s
		x.edit(&c)
		if l, e := render.Outs(c, p, 0, 3); e != api.OK || len(l) != 1 || !slices.Equal(l[0], x.want) {
			t.Error(i, l, e)
		}
	}
}

func TestErrors(t *testing.T) {
	s, p := simple(t)
	s.Nodes = append(s.Nodes, api.Node{Id: 3, Kind: api.BusN}, api.Node{Id: 4, Kind: api.ProcN})
	s.Procs = fixtures.Resolve("processor p latency 1 tail 0 { out in(1); }")
	for i, x := range []struct {
		id, from, n int
		want        api.Errno
	}{{1, 0, 3, api.OK}, {5, 0, 3, api.ErrArg}, {1, -1, 3, api.ErrArg}, {1, 1<<40 + 1, 3, api.ErrArg}, {1, 0, -1, api.ErrArg}, {1, 0, 65537, api.ErrLimit}, {4, 1 << 40, 65536, api.OK}, {1, 0, 0, api.OK}, {5, 0, 65537, api.ErrArg}} {
		l, e := render.Node(s, p, x.id, x.from, x.n)
		if e != x.want || e == api.OK && len(l) != x.n || e != api.OK && l != nil {
			t.Error(i, e)
		}
		if o, e := render.Outs(s, p, x.from, x.n); x.id < 5 && (e != x.want || e != api.OK && o != nil) {
			t.Error(i, e)
		}
	}
	for i, x := range []struct {
		id, port int
		want     api.Errno
	}{{1, api.MainP, api.ErrArg}, {2, api.MainP, api.OK}, {2, api.SideP, api.ErrArg}, {3, api.MainP, api.OK}, {3, api.SideP, api.ErrArg}, {4, api.SideP, api.OK}, {4, api.MainP, api.OK}, {4, 2, api.ErrArg}, {9, 0, api.ErrArg}} {
		if l, e := render.Input(s, p, x.id, x.port, 0, 5); e != x.want || e == api.OK && len(l) != 5 {
			t.Error(i, e)
		}
	}
	s.Routes = []api.Route{{From: 3, To: 3}}
	_, e1 := render.Node(s, p, 9, -1, -1)
	_, e2 := render.Input(s, p, 9, 9, -1, -1)
	_, e3 := render.Outs(s, p, -1, -1)
	if e1 != api.ErrLoop || e2 != api.ErrLoop || e3 != api.ErrLoop {
		t.Error(e1, e2, e3)
	}
}

// TestIdeal compares signals with those of the definition, in windows.
func TestIdeal(t *testing.T) {
	r := &fixtures.Random{State: 3}
	for i := range 24 {
		s, p := songs.Make(r, songs.Options{Finite: i%3 == 0, Nodes: 5})
		x := newIdeal(s, p)
		for _, n := range s.Nodes {
			from, many := r.Intn(30), r.Intn(12)
			l, e := render.Node(s, p, n.Id, from, many)
			for k := range l {
				if want := x.output(n.Id, from+k); e != api.OK || l[k] != want {
					t.Fatal(i, n.Id, from+k, l[k], want)
				}
			}
			for _, port := range []int{api.MainP, api.SideP} {
				l, e := render.Input(s, p, n.Id, port, from, many)
				for k := range l {
					if want := x.input(n.Id, port, from+k); e != api.OK || l[k] != want {
						t.Fatal(i, "input", n.Id, port, from+k, l[k], want)
					}
				}
			}
		}
		all, e := render.Outs(s, p, 5, 20)
		a, _ := render.Outs(s, p, 5, 7)
		b, _ := render.Outs(s, p, 12, 13)
		for k := range all {
			if e != api.OK || !slices.Equal(all[k], append(a[k], b[k]...)) {
				t.Fatal("divided")
			}
		}
	}
}

// TestFar renders far away, where only the memory of the session is computed.
func TestFar(t *testing.T) {
	s, p := simple(t)
	s.Procs = fixtures.Resolve("processor p latency 2 tail 4 { line d 4 from -2147483648 to 2147483647; push d = in(2); out tap(d, 3); }")
	s.Nodes = append(s.Nodes, api.Node{Id: 3, Kind: api.ProcN})
	s.Routes = []api.Route{{From: 1, To: 3}, {From: 3, To: 2}}
	s.Nodes[0].Places[0].Tick, s.Nodes[0].Places[0].Off = 1<<24, 5
	s.Tempo = []api.Tempo{{N: 1 << 15, D: 1}}
	at := 1<<39 + 5
	if l, e := render.Outs(s, p, at, 5); e != api.OK || !equal.Lists(l, [][]int{{0, 0, 100, 200, 0}}) {
		t.Error(l, e)
	}
}

func TestGreatestBlock(t *testing.T) {
	s, p := simple(t)
	a, e1 := render.Node(s, p, 1, 0, 65536)
	b, e2 := render.Input(s, p, 2, api.MainP, 0, 65536)
	c, e3 := render.Outs(s, p, 1<<40, 65536)
	if e1 != api.OK || e2 != api.OK || e3 != api.OK || len(a) != 65536 || len(b) != 65536 || len(c[0]) != 65536 {
		t.Error(e1, e2, e3)
	}
	if _, e := render.Input(s, p, 2, api.MainP, 0, 65537); e != api.ErrLimit {
		t.Error(e)
	}
}

// TestBehind looks at what lies behind the last position.
func TestBehind(t *testing.T) {
	s, p := simple(t)
	s.Procs = fixtures.Resolve("processor p latency 9 tail 0 { out in(9); }")
	s.Nodes = append(s.Nodes, api.Node{Id: 3, Kind: api.ProcN})
	s.Routes = []api.Route{{From: 1, To: 3}, {From: 3, To: 2}}
	s.Tempo = []api.Tempo{{N: 1 << 16, D: 1}}
	track := &s.Nodes[0]
	early := track.Places[0]
	early.Tick, early.Off = 1<<24, -1<<24
	late := early
	late.Id, late.Off = 2, 65536+5
	track.Places = []api.Place{early, late}
	want := make([]int, 65536)
	want[65536-4], want[65536-3] = 100, 200
	l, e := render.Outs(s, p, 1<<40, 65536)
	if e != api.OK || !slices.Equal(l[0], want) {
		t.Error(e, l[0][65525:])
	}
}
