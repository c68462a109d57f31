package merge_test

import (
	"slices"
	"testing"

	"soundpost/api"
	"soundpost/edits"
	"soundpost/fixtures"
	"soundpost/merge"
	"soundpost/session"
	"soundpost/songs"
)

func bus(peer, no, time int) api.Op {
	return api.Op{Peer: peer, No: no, Time: time, Kind: api.NodeO, A: api.BusN}
}

func route(peer, no, time, from, to int) api.Op {
	return api.Op{Peer: peer, No: no, Time: time, Kind: api.RouteO, A: from, B: to}
}

func log(l ...api.Op) api.Log { return api.Log{Ops: l} }

func same(t *testing.T, a, b api.Session) bool {
	t.Helper()
	x, e := session.Digest(a)
	y, f := session.Digest(b)
	return e == api.OK && f == api.OK && x == y
}

// full is a log with 4096 operations.
func full() api.Log {
	var l api.Log
	for peer := range 16 {
		for no := range 256 {
			l.Ops = append(l.Ops, api.Op{Peer: peer, No: no, Time: 1 + peer, Kind: api.DropO, A: 1})
		}
	}
	return l
}

func TestCheck(t *testing.T) {
	for i, x := range []struct {
		l    api.Log
		want api.Errno
	}{
		{log(), api.OK}, {log(api.Op{}), api.ErrOp}, {log(bus(0, 0, 1), bus(0, 0, 2)), api.ErrClash}, {log(bus(0, 0, 2), bus(0, 1, 1)), api.ErrClash}, {log(bus(1, 0, 1), bus(0, 0, 1)), api.ErrClash}, {log(bus(0, 1, 1), bus(0, 0, 1)), api.ErrClash}, {log(bus(0, 0, 1), bus(0, 0, 1)), api.ErrClash},
		{log(bus(0, 0, 1), bus(0, 0, 1), api.Op{}), api.ErrOp}, {log(bus(1, 0, 1), bus(0, 0, 2), api.Op{Peer: 2, Time: 2, Kind: api.UndoO}), api.OK}, {full(), api.OK}, {log(make([]api.Op, 4097)...), api.ErrLimit},
	} {
		y, e1 := merge.Add(x.l, api.Op{})
		_, e2 := merge.Union(x.l, log(api.Op{}))
		s, r, e3 := merge.Build(x.l)
		_, e4 := merge.Union(log(), x.l)
		if merge.Check(x.l) != x.want || x.want != api.OK && (e1 != x.want || e2 != x.want || e3 != x.want || e4 != x.want || y.Ops != nil || s.Tempo != nil || r != nil) || x.want == api.OK && (e1 != api.ErrOp || e2 != api.ErrOp) {
			t.Error(i, merge.Check(x.l), e1, e2, e3, e4)
		}
		if len(x.l.Ops) > 10 {
			break
		}
	}
	if merge.Check(log(make([]api.Op, 4097)...)) != api.ErrLimit {
		t.Error("limit")
	}
}

func TestAdd(t *testing.T) {
	a, b, c := bus(0, 0, 1), bus(1, 0, 3), bus(0, 1, 2)
	l, e := merge.Add(log(a, b), c)
	if e != api.OK || !merge.Same(l, log(a, c, b)) {
		t.Error(l, e)
	}
	if x, e := merge.Add(l, c); e != api.OK || !merge.Same(x, l) {
		t.Error(e)
	}
	if x, e := merge.Add(l, bus(0, 1, 9)); e != api.ErrClash || x.Ops != nil {
		t.Error(e)
	}
	if _, e := merge.Add(full(), api.Op{Peer: 3, No: 3, Time: 9, Kind: api.DropO, A: 1}); e != api.ErrClash {
		t.Error(e)
	}
	short := full()
	short.Ops = short.Ops[:4095]
	if x, e := merge.Union(short, full()); e != api.OK || len(x.Ops) != 4096 {
		t.Error(e)
	}
	if _, e := merge.Union(log(a), log(bus(0, 0, 2))); e != api.ErrClash {
		t.Error(e)
	}
	if !merge.Same(log(api.Op{}), log(api.Op{})) || merge.Same(log(a), log(a, b)) || merge.Same(log(a), log(b)) {
		t.Error("same")
	}
}

func TestBuild(t *testing.T) {
	if s, r, e := merge.Build(log()); e != api.OK || len(r) != 0 || !same(t, s, edits.Start()) {
		t.Error(s, r, e)
	}
	l := log(bus(0, 0, 1), bus(1, 0, 2), route(0, 1, 3, 1, 257), route(1, 1, 3, 257, 1), api.Op{Time: 4, Peer: 0, No: 2, Kind: api.UndoO, Of: [2]int{0, 0}})
	s, r, e := merge.Build(l)
	if e != api.OK || !slices.Equal(r, [][2]int{{1, 1}}) || len(s.Nodes) != 2 || len(s.Routes) != 1 || s.Routes[0].From != 1 {
		t.Error(s, r, e)
	}
}

func TestAnyOrder(t *testing.T) {
	r := &fixtures.Random{State: 3}
	for range 15 {
		var ops []api.Op
		for i := range 40 {
			ops = append(ops, songs.Op(r, i%3, i/3))
		}
		build := func(ops []api.Op) (l api.Log) {
			for _, o := range ops {
				x, e := merge.Add(l, o)
				if e != api.OK {
					t.Fatal(e)
				}
				l = x
			}
			return l
		}
		l := build(ops)
		mixed := slices.Clone(ops)
		for i := range mixed {
			k := r.Intn(i + 1)
			mixed[i], mixed[k] = mixed[k], mixed[i]
		}
		if m := build(append(mixed, mixed[:9]...)); !merge.Same(l, m) || merge.Check(m) != api.OK {
			t.Fatal("order")
		}
		a, b, c := build(mixed[:20]), build(mixed[10:30]), build(mixed[25:])
		ab, _ := merge.Union(a, b)
		ba, _ := merge.Union(b, a)
		bc, _ := merge.Union(b, c)
		x, _ := merge.Union(ab, c)
		y, e := merge.Union(a, bc)
		if aa, _ := merge.Union(a, a); e != api.OK || !merge.Same(ab, ba) || !merge.Same(x, y) || !merge.Same(x, l) || !merge.Same(aa, a) {
			t.Fatal("union", e)
		}
		s, refused, _ := merge.Build(l)
		var kept api.Log
		for _, o := range l.Ops {
			if !slices.Contains(refused, [2]int{o.Peer, o.No}) {
				kept.Ops = append(kept.Ops, o)
			}
		}
		again, none, _ := merge.Build(kept)
		if session.Check(s) != api.OK || len(none) != 0 || !same(t, s, again) {
			t.Fatal("without what is refused", none)
		}
	}
}
