package undo_test

import (
	"slices"
	"testing"

	"soundpost/api"
	"soundpost/edits"
	"soundpost/fixtures"
	"soundpost/merge"
	"soundpost/session"
	"soundpost/songs"
	"soundpost/undo"
)

func bus(peer, no, time int) api.Op {
	return api.Op{Peer: peer, No: no, Time: time, Kind: api.NodeO, A: api.BusN}
}

func route(peer, no, time, from, to int) api.Op {
	return api.Op{Peer: peer, No: no, Time: time, Kind: api.RouteO, A: from, B: to}
}

func undoing(peer, no, time, ofPeer, ofNo int) api.Op {
	return api.Op{Peer: peer, No: no, Time: time, Kind: api.UndoO, Of: [2]int{ofPeer, ofNo}}
}

func log(l ...api.Op) api.Log { return api.Log{Ops: l} }

func same(t *testing.T, a, b api.Session) bool {
	t.Helper()
	x, e := session.Digest(a)
	y, f := session.Digest(b)
	return e == api.OK && f == api.OK && x == y
}

func TestActive(t *testing.T) {
	for i, x := range []struct {
		l    api.Log
		want []bool
	}{
		{log(), nil}, {log(bus(0, 0, 1), undoing(0, 1, 2, 0, 0), undoing(0, 2, 3, 0, 1)), []bool{true, false, true}}, {log(bus(0, 0, 1), undoing(1, 0, 2, 0, 0)), []bool{true, true}}, {log(undoing(0, 0, 1, 0, 0)), []bool{true}}, {log(undoing(0, 1, 1, 0, 0), bus(0, 0, 2)), []bool{true, true}},
		{log(bus(0, 0, 1), undoing(0, 1, 2, 0, 0), undoing(0, 2, 3, 0, 0)), []bool{false, true, true}}, {log(bus(0, 0, 1), undoing(0, 1, 2, 0, 0), undoing(0, 2, 3, 0, 1), undoing(0, 3, 4, 0, 2)), []bool{false, true, false, true}}, {log(bus(0, 0, 1), undoing(0, 1, 2, 0, 7)), []bool{true, true}},
	} {
		if l, e := undo.Active(x.l); e != api.OK || !slices.Equal(l, x.want) {
			t.Error(i, l, e)
		}
	}
	l := log(bus(0, 0, 1), undoing(0, 1, 2, 0, 0), bus(1, 0, 3))
	for i, x := range []struct {
		peer int
		of   [2]int
		want api.Errno
	}{{0, [2]int{0, 0}, api.ErrUndo}, {0, [2]int{0, 1}, api.OK}, {0, [2]int{1, 0}, api.ErrUndo}, {1, [2]int{1, 0}, api.OK}, {1, [2]int{1, 1}, api.ErrUndo}, {1, [2]int{0, 1}, api.ErrUndo}} {
		if e := undo.May(l, x.peer, x.of); e != x.want {
			t.Error(i, e)
		}
	}
	if undo.May(log(), 0, [2]int{}) != api.ErrUndo {
		t.Error("nothing to undo")
	}
	bad := log(api.Op{})
	_, e1 := undo.Active(bad)
	_, _, e2 := undo.Build(bad)
	_, e3 := undo.Trace(bad, [2]int{})
	if undo.May(bad, 0, [2]int{}) != api.ErrOp || e1 != api.ErrOp || e2 != api.ErrOp || e3 != api.ErrOp {
		t.Error(e1, e2, e3)
	}
}

func TestTrace(t *testing.T) {
	l := log(bus(0, 0, 1), bus(1, 0, 2), route(1, 1, 3, 257, 1), route(1, 2, 4, 257, 99), undoing(0, 1, 5, 0, 0))
	s, refused, e := undo.Build(l)
	if e != api.OK || len(s.Nodes) != 1 || !slices.Equal(refused, [][2]int{{1, 1}, {1, 2}}) {
		t.Error(s, refused, e)
	}
	if x, e := undo.Trace(l, [2]int{0, 0}); e != api.OK || !slices.Equal(x, [][2]int{{1, 1}}) {
		t.Error(x, e)
	}
	for i, of := range [][2]int{{1, 0}, {0, 1}, {5, 5}} {
		if x, e := undo.Trace(l, of); e != api.ErrUndo || x != nil {
			t.Error(i, e)
		}
	}
	if s, r, e := undo.Build(log(bus(0, 0, 1), undoing(0, 1, 5, 0, 0))); e != api.OK || len(r) != 0 || !same(t, s, edits.Start()) {
		t.Error(s, r, e)
	}
}

func TestConsequences(t *testing.T) {
	r := &fixtures.Random{State: 5}
	for range 20 {
		var l api.Log
		for i := range 30 {
			l, _ = merge.Add(l, songs.Op(r, i%3, i/3))
		}
		k := r.Intn(len(l.Ops))
		o := l.Ops[k]
		less := log(slices.Concat(l.Ops[:k], l.Ops[k+1:])...)
		x, _ := merge.Add(l, undoing(o.Peer, 100, 60, o.Peer, o.No))
		a, ra, e := undo.Build(x)
		b, rb, _ := undo.Build(less)
		if e != api.OK || !same(t, a, b) || !slices.Equal(ra, rb) || session.Check(a) != api.OK {
			t.Fatal("undone", o)
		}
		twice, _ := merge.Add(x, undoing(o.Peer, 101, 61, o.Peer, o.No))
		if c, _, _ := undo.Build(twice); !same(t, b, c) {
			t.Fatal("twice")
		}
		y, _ := merge.Add(x, undoing(o.Peer, 101, 61, o.Peer, 100))
		c, _, _ := undo.Build(y)
		if d, _, _ := undo.Build(l); !same(t, c, d) {
			t.Fatal("undone and redone", o)
		}
		other := (o.Peer + 1) % 3
		z, _ := merge.Add(l, undoing(other, 100, 60, o.Peer, o.No))
		d, _, _ := undo.Build(z)
		if f, _, _ := undo.Build(l); !same(t, d, f) {
			t.Fatal("another peer's")
		}
	}
}
