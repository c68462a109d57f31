package history_test

import (
	"slices"
	"testing"

	"soundpost/api"
	"soundpost/fixtures"
	"soundpost/history"
	"soundpost/merge"
	"soundpost/songs"
)

func bus(peer, no, time int) api.Op {
	return api.Op{Peer: peer, No: no, Time: time, Kind: api.NodeO, A: api.BusN}
}

func log(l ...api.Op) api.Log { return api.Log{Ops: l} }

var bad = log(api.Op{})

func TestAsof(t *testing.T) {
	l := log(bus(0, 0, 1), bus(1, 0, 3), bus(2, 0, 3), bus(0, 1, 9))
	for time, want := range map[int]int{0: 0, 1: 1, 2: 1, 3: 3, 8: 3, 9: 4, 1 << 20: 4} {
		x, e := history.Asof(l, time)
		y, f := history.Branch(l, time, nil)
		if e != api.OK || f != api.OK || !merge.Same(x, log(l.Ops[:want]...)) || !merge.Same(x, y) {
			t.Error(time, x, e, f)
		}
	}
	for _, time := range []int{-1, 1<<20 + 1} {
		x, e := history.Asof(l, time)
		y, f := history.Branch(l, time, nil)
		if e != api.ErrHistory || f != api.ErrHistory || x.Ops != nil || y.Ops != nil {
			t.Error(time, e, f)
		}
	}
	_, e := history.Asof(bad, -1)
	_, f := history.Branch(bad, -1, nil)
	if e != api.ErrOp || f != api.ErrOp {
		t.Error(e, f)
	}
}

func TestBranch(t *testing.T) {
	l := log(bus(0, 0, 1), bus(1, 0, 3), bus(0, 1, 9))
	if x, e := history.Branch(l, 5, []api.Op{bus(3, 1, 7), bus(2, 0, 6)}); e != api.OK || !merge.Same(x, log(bus(0, 0, 1), bus(1, 0, 3), bus(2, 0, 6), bus(3, 1, 7))) {
		t.Error(x, e)
	}
	for i, x := range []struct {
		time int
		ops  []api.Op
		want api.Errno
	}{{5, []api.Op{bus(0, 1, 5)}, api.ErrHistory}, {5, []api.Op{{Time: 9}, bus(0, 1, 5)}, api.ErrHistory}, {5, []api.Op{{Time: 9}}, api.ErrOp}, {5, []api.Op{bus(0, 0, 6)}, api.ErrClash}, {5, []api.Op{bus(0, 1, 6), bus(0, 1, 7)}, api.ErrClash}} {
		if y, e := history.Branch(l, x.time, x.ops); e != x.want || y.Ops != nil {
			t.Error(i, e)
		}
	}
}

func TestBase(t *testing.T) {
	for i, x := range []struct {
		a, b api.Log
		want int
	}{
		{log(), log(), 1 << 20}, {log(), log(bus(0, 0, 1)), 0}, {log(bus(0, 0, 3)), log(bus(0, 0, 5)), 2}, {log(bus(0, 0, 3), bus(0, 1, 7)), log(bus(0, 0, 3), bus(0, 2, 7)), 6}, {log(bus(0, 0, 3)), log(bus(0, 0, 3), bus(0, 1, 1<<20)), 1<<20 - 1},
	} {
		a, e := history.Base(x.a, x.b)
		b, f := history.Base(x.b, x.a)
		if a != x.want || b != x.want || e != api.OK || f != api.OK {
			t.Error(i, a, b, e, f)
		}
	}
	_, e := history.Base(bad, log())
	_, f := history.Base(log(), bad)
	if e != api.ErrOp || f != api.ErrOp {
		t.Error(e, f)
	}
	r := &fixtures.Random{State: 1}
	for range 50 {
		var l api.Log
		for i := range 20 {
			l, _ = merge.Add(l, songs.Op(r, 0, i))
		}
		time := r.Intn(50)
		var ops []api.Op
		for i := range r.Intn(4) {
			o := songs.Op(r, 1, i)
			o.Time = time + 1 + r.Intn(9)
			ops = append(ops, o)
		}
		x, e := history.Branch(l, time, ops)
		a, _ := history.Asof(x, time)
		b, _ := history.Asof(l, time)
		if base, _ := history.Base(x, l); e != api.OK || !merge.Same(a, b) || base < time {
			t.Fatal(base, time, e)
		}
	}
}

func TestCompare(t *testing.T) {
	flat := []api.Tempo{{N: 1, D: 1}}
	a := api.Session{Tempo: flat, Nodes: []api.Node{{Id: 1, Kind: api.BusN}, {Id: 4, Kind: api.BusN}, {Id: 6, Kind: api.OutN}}}
	b := api.Session{Tempo: flat, Nodes: []api.Node{{Id: 4, Kind: api.OutN}, {Id: 6, Kind: api.OutN}, {Id: 9, Kind: api.BusN}}}
	x, e := history.Compare(a, b)
	y, f := history.Compare(b, a)
	if e != api.OK || f != api.OK || !slices.Equal(x, []int{1, 4, 9}) || !slices.Equal(x, y) {
		t.Error(x, y, e, f)
	}
	if x, e := history.Compare(a, a); e != api.OK || len(x) != 0 {
		t.Error(x, e)
	}
	_, e = history.Compare(api.Session{}, a)
	_, f = history.Compare(a, api.Session{})
	if e != api.ErrSession || f != api.ErrSession {
		t.Error(e, f)
	}
	r := &fixtures.Random{State: 2}
	for range 40 {
		a, _ := songs.Make(r, songs.Options{Nodes: 4})
		b := songs.Edit(r, a)
		x, e := history.Compare(a, b)
		y, f := history.Compare(b, a)
		if e != api.OK || f != api.OK || !slices.Equal(x, y) {
			t.Fatal(x, y)
		}
	}
}
