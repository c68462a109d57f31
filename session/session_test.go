package session_test

import (
	"slices"
	"strings"
	"testing"

	"soundpost/api"
	"soundpost/codec"
	"soundpost/curves"
	"soundpost/digest"
	"soundpost/fixtures"
	"soundpost/gestures"
	"soundpost/links"
	"soundpost/plan"
	"soundpost/session"
	"soundpost/songs"
)

var flat = []api.Tempo{{N: 1, D: 1}}

func proc() api.Proc {
	return fixtures.Resolve("processor p latency 2 tail 0 { param a from -5 to 5; param b from 0 to 9; out sat(in(2) + a + b); }")[0]
}

// whole is a session with a node of each kind.
func whole() api.Session {
	return api.Session{
		Tempo: flat, Procs: []api.Proc{proc()}, Params: []api.Param{{Id: 1, Value: 7}, {Id: 5, Value: -3}}, Links: []api.Link{{From: 1, To: 5, Num: 1, Den: 1}},
		Nodes:  []api.Node{{Id: 1, Kind: api.TrackN}, {Id: 2, Kind: api.ProcN, Params: []int{1, 0}}, {Id: 3, Kind: api.BusN}, {Id: 4, Kind: api.OutN}},
		Routes: []api.Route{{From: 1, To: 2}, {From: 1, To: 2, Port: api.SideP}, {From: 2, To: 3, Gain: 5, Delay: 3}, {From: 3, To: 2, Delay: 0}, {From: 3, To: 4}},
	}
}

func TestCheck(t *testing.T) {
	edit := func(f func(*api.Session)) api.Session {
		s := whole()
		f(&s)
		return s
	}
	for i, f := range []func(*api.Session){
		func(s *api.Session) { s.Tempo = nil }, func(s *api.Session) { s.Procs[0].Latency = 1 }, func(s *api.Session) { s.Procs = append(s.Procs, proc()) }, func(s *api.Session) { s.Procs = make([]api.Proc, 65) },
		func(s *api.Session) { s.Params[1].Id = 1 }, func(s *api.Session) { s.Params[1].Id = 1<<20 + 1 }, func(s *api.Session) { s.Params[0].Id = 0 }, func(s *api.Session) { s.Params[0].Value = 1 << 31 }, func(s *api.Session) { s.Params[0].Knots = []api.Knot{{}} },
		func(s *api.Session) { s.Params[0].Gestures = []api.Gesture{{}} }, func(s *api.Session) { s.Links[0].To = 4 }, func(s *api.Session) { s.Links[0].From = 4 }, func(s *api.Session) { s.Links[0].Den = 0 }, func(s *api.Session) { s.Links[0].To = 1 },
		func(s *api.Session) { s.Nodes[1].Id = 1 }, func(s *api.Session) { s.Nodes[0].Id = 0 }, func(s *api.Session) { s.Nodes[3].Id = 1<<20 + 1 }, func(s *api.Session) { s.Nodes[0].Kind = 0 }, func(s *api.Session) { s.Nodes[0].Kind = 5 }, func(s *api.Session) { s.Nodes[0].Proc = 1 },
		func(s *api.Session) { s.Nodes[0].Params = []int{1} }, func(s *api.Session) { s.Nodes[0].Places = []api.Place{{}} }, func(s *api.Session) { s.Nodes[1].Proc = 1 }, func(s *api.Session) { s.Nodes[1].Proc = -1 }, func(s *api.Session) { s.Nodes[1].Params = []int{1} },
		func(s *api.Session) { s.Nodes[1].Params = []int{1, 2} }, func(s *api.Session) { s.Nodes[1].Places = []api.Place{{}} }, func(s *api.Session) { s.Nodes[2].Proc = 1 }, func(s *api.Session) { s.Nodes[3].Params = []int{1} }, func(s *api.Session) { s.Nodes[3].Places = []api.Place{{}} },
		func(s *api.Session) { s.Routes[0].From = 4 }, func(s *api.Session) { s.Routes[4].From = 4 }, func(s *api.Session) { s.Routes[0].To = 1 }, func(s *api.Session) { s.Routes[0].Port = 2 }, func(s *api.Session) { s.Routes[2].Port = api.SideP }, func(s *api.Session) { s.Routes[2].Gain = 2 },
		func(s *api.Session) { s.Routes[2].Delay = 1<<20 + 1 }, func(s *api.Session) { s.Routes[2].Delay = -1 }, func(s *api.Session) { s.Routes[1].Port = api.MainP }, func(s *api.Session) { s.Routes[0].To = 9 }, func(s *api.Session) { slices.Reverse(s.Routes) },
	} {
		s := edit(f)
		_, e1 := session.Graph(s)
		_, e2 := session.Values(s, 0, -1, -1)
		_, e3 := session.Controls(s, 0, -1, -1)
		_, e4 := session.Digest(s)
		if session.Check(s) != api.ErrSession || e1 != api.ErrSession || e2 != api.ErrSession || e3 != api.ErrSession || e4 != api.ErrSession {
			t.Error(i, session.Check(s))
		}
	}
	short := edit(func(s *api.Session) { s.Routes[2].Delay = 2 })
	if e := session.Check(short); e != api.ErrLoop {
		t.Error(e)
	}
	if session.Check(whole()) != api.OK || session.Check(api.Session{Tempo: flat}) != api.OK {
		t.Error("valid")
	}
	g, e := session.Graph(whole())
	if e != api.OK || !slices.Equal(g.Latency, []int{0, 2, 0, 0}) || !slices.Equal(g.Edges, []api.Edge{{From: 0, To: 1, Weight: 1}, {From: 0, To: 1, Weight: 1}, {From: 1, To: 2, Weight: 1, Delay: 3}, {From: 2, To: 1, Weight: 1}, {From: 2, To: 3, Weight: 1}}) {
		t.Error(g, e)
	}
}

func TestValues(t *testing.T) {
	s := whole()
	s.Params[0].Knots = []api.Knot{{At: 2, Value: 0, Shape: api.LineC}, {At: 6, Value: 8, Shape: api.HoldC}}
	s.Params[0].Gestures = []api.Gesture{{Mode: api.TrimM, From: 3, To: 5, Until: 5, Knots: []api.Knot{{Value: 100, Shape: api.HoldC}}}}
	s.Links[0].Num, s.Links[0].Den, s.Links[0].Add = -3, 2, 1
	v, e := session.Values(s, 1, 1, 7)
	if want := []int{0, 0, 102, 104, 6, 8, 8}; e != api.OK || !slices.Equal(v, want) {
		t.Error(v, e)
	}
	if v, e := session.Values(s, 5, 1, 7); e != api.OK || !slices.Equal(v, []int{1, 1, -152, -155, -8, -11, -11}) {
		t.Error(v, e)
	}
	c, e := session.Controls(s, 2, 2, 3)
	if e != api.OK || len(c) != 3 || !slices.Equal(c[0], []int{0, 0}) || !slices.Equal(c[1], []int{5, 0}) {
		t.Error(c, e)
	}
	if c, e := session.Controls(s, 2, 2, 0); e != api.OK || len(c) != 0 {
		t.Error(c, e)
	}
	for i, x := range []struct {
		id, from, n int
		want        api.Errno
	}{{2, 0, 1, api.ErrArg}, {1, -1, 1, api.ErrArg}, {1, 1<<40 + 1, 1, api.ErrArg}, {1, 0, -1, api.ErrArg}, {1, 0, 65537, api.ErrLimit}, {1, 1 << 40, 65536, api.OK}, {0, 0, 1, api.ErrArg}} {
		if v, e := session.Values(s, x.id, x.from, x.n); e != x.want || e != api.OK && v != nil {
			t.Error(i, e)
		}
	}
	for i, x := range []struct {
		id, from, n int
		want        api.Errno
	}{{1, 0, 1, api.ErrArg}, {3, 0, 1, api.ErrArg}, {9, 0, 1, api.ErrArg}, {2, -1, 1, api.ErrArg}, {2, 0, 65537, api.ErrLimit}, {2, 1 << 40, 1, api.OK}} {
		if v, e := session.Controls(s, x.id, x.from, x.n); e != x.want || e != api.OK && v != nil {
			t.Error(i, e)
		}
	}
}

// slow returns the value of a parameter as the chapter defines it.
func slow(s api.Session, id, t int) int {
	own := make([]int, len(s.Params))
	at := map[int]int{}
	for i, p := range s.Params {
		at[p.Id] = i
		v := p.Value
		if len(p.Knots) > 0 {
			curve, _ := curves.Resolve(s.Tempo, p.Knots)
			v, _ = curves.Value(curve, t)
		}
		own[i], _ = gestures.Value(v, p.Gestures, t)
	}
	var l []api.Link
	target := false
	for _, x := range s.Links {
		target = target || x.To == id
		x.From, x.To = at[x.From], at[x.To]
		l = append(l, x)
	}
	if !target {
		return own[at[id]]
	}
	x, _ := links.Values(l, own)
	return x[at[id]]
}

func TestConsequences(t *testing.T) {
	r := &fixtures.Random{State: 1}
	for range 40 {
		s, _ := songs.Make(r, songs.Options{Nodes: 4})
		g, _ := session.Graph(s)
		if _, e := plan.Make(g); e != api.OK {
			t.Fatal(e)
		}
		for _, p := range s.Params {
			from := r.Intn(20)
			v, e := session.Values(s, p.Id, from, 15)
			for i := range v {
				if want := slow(s, p.Id, from+i); e != api.OK || v[i] != want {
					t.Fatal(p, from+i, v[i], want)
				}
			}
		}
		k := r.Intn(len(s.Nodes))
		less := s
		less.Nodes = slices.Concat(s.Nodes[:k], s.Nodes[k+1:])
		less.Routes = slices.DeleteFunc(slices.Clone(s.Routes), func(x api.Route) bool { return x.From == s.Nodes[k].Id || x.To == s.Nodes[k].Id })
		if session.Check(less) != api.OK {
			t.Fatal("without a node")
		}
	}
}

func TestDigest(t *testing.T) {
	num := func(n int) api.Value { return api.Value{Kind: api.IntV, N: n} }
	str := func(s string) api.Value { return api.Value{Kind: api.TextV, S: s} }
	list := func(l ...api.Value) api.Value { return api.Value{Kind: api.ListV, L: l} }
	ints := func(l ...int) api.Value {
		v := list()
		for _, n := range l {
			v.L = append(v.L, num(n))
		}
		return v
	}
	p := fixtures.Resolve("processor p latency 2 tail 0 { param a from -5 to 5; state s from 0 to 1; line d 3 from 1 to 2; table t = 4, -1; out in(0); }")[0]
	s := api.Session{
		Tempo: []api.Tempo{{N: 3, D: 2, Ramp: true}, {Tick: 9, N: 1, D: 1}}, Procs: []api.Proc{p}, Links: []api.Link{{From: 1, To: 5, Num: -2, Den: 3, Add: 4}},
		Params: []api.Param{{Id: 1, Value: 7, Knots: []api.Knot{{At: 2, Value: 3, Shape: 3, A: 4, B: 5}}}, {Id: 5, Gestures: []api.Gesture{{Mode: 2, From: 1, To: 2, Until: 3, Knots: []api.Knot{{Shape: 1}}}}}},
		Nodes:  []api.Node{{Id: 1, Kind: 1, Places: []api.Place{{Id: 6, Tick: 2, Off: 1, Clip: api.Clip{Kind: api.LayK, At: []int{8}, L: []api.Clip{{Kind: api.TakeK, Take: api.Digest{9}, From: 1, Len: 2}}}}}}, {Id: 2, Kind: 2, Params: []int{5}}},
		Routes: []api.Route{{From: 1, To: 2, Port: 1, Gain: 5, Delay: 3}},
	}
	take := api.Digest{9}
	want := list(
		list(ints(0, 3, 2, 1), ints(9, 1, 1, 0)),
		list(list(str("p"), num(2), num(0), list(list(str("a"), num(-5), num(5))), list(list(str("s"), num(0), num(1))), list(list(str("d"), num(3), num(1), num(2))), list(list(str("t"), ints(4, -1))),
			list(list(num(4), str(""), num(0), list(list(num(6), str(""), num(0), num(0), num(1)), list(num(1), str(""), num(0), num(0), num(0))))))),
		list(list(num(1), num(7), list(ints(2, 3, 3, 4, 5)), list()), list(num(5), num(0), list(), list(list(num(2), num(1), num(2), num(3), list(ints(0, 0, 1, 0, 0)))))),
		list(ints(1, 5, -2, 3, 4)),
		list(list(num(1), num(1), num(0), list(), list(list(num(6), num(2), num(1), list(
			list(num(8), str(string(make([]byte, 32))), num(0), num(0), num(0), num(0), ints(8), num(1)), list(num(1), str(string(take[:])), num(1), num(2), num(0), num(0), list(), num(0)))))),
			list(num(2), num(2), num(0), ints(5), list())),
		list(ints(1, 2, 1, 5, 3)),
	)
	b, e := codec.Encode(want)
	if e != api.OK {
		t.Fatal(e)
	}
	if d, e := session.Digest(s); e != api.OK || d != digest.Tagged("session", b) {
		t.Error(e)
	}
}

// TestGreatest has as much of everything as a session may have.
func TestGreatest(t *testing.T) {
	s := api.Session{Tempo: flat}
	for i := range 64 {
		s.Procs = append(s.Procs, fixtures.Resolve("processor n"+strings.Repeat("x", i%30)+string(rune('a'+i/30))+" latency 0 tail 0 { out 1; }")...)
	}
	for i := range 256 {
		s.Params = append(s.Params, api.Param{Id: 1<<20 - 255 + i})
	}
	for i := range 4096 {
		s.Nodes = append(s.Nodes, api.Node{Id: 1<<20 - 4095 + i, Kind: api.BusN})
	}
	for i := range 16384 {
		s.Routes = append(s.Routes, api.Route{From: s.Nodes[i/16].Id, To: s.Nodes[2000+i%16].Id})
	}
	if len(s.Procs) != 64 || session.Check(s) != api.OK {
		t.Error(session.Check(s))
	}
}
