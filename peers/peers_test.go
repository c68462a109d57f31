package peers

import (
	"slices"
	"testing"

	"soundpost/api"
	"soundpost/codec"
	"soundpost/edits"
	"soundpost/equal"
	"soundpost/fixtures"
	"soundpost/merge"
	"soundpost/session"
	"soundpost/songs"
)

var bus = api.Op{Kind: api.NodeO, A: api.BusN}

func do(t *testing.T, r api.Room, l ...api.Act) api.Room {
	t.Helper()
	for i, a := range l {
		x, e := Do(r, a)
		if e != api.OK || Check(x) != api.OK {
			t.Fatal(i, a, e)
		}
		r = x
	}
	return r
}

func edit(peer int, o api.Op) api.Act { return api.Act{Kind: api.EditA, Peer: peer, Op: o} }

func undoing(peer, no int) api.Op { return api.Op{Kind: api.UndoO, Of: [2]int{peer, no}} }

func digest(t *testing.T, r api.Room, peer int) api.Digest {
	t.Helper()
	s, e := Session(r, peer)
	d, f := session.Digest(s)
	if e != api.OK || f != api.OK {
		t.Fatal(e, f)
	}
	return d
}

func TestNew(t *testing.T) {
	for n, want := range map[int]api.Errno{0: api.ErrArg, 17: api.ErrArg, -1: api.ErrArg, 1: api.OK, 16: api.OK} {
		if r, e := New(n); e != want || e == api.OK && (len(r.Peers) != n || Check(r) != api.OK) {
			t.Error(n, e)
		}
	}
	r, _ := New(2)
	if s, e := Session(r, 1); e != api.OK || len(s.Nodes) != 0 || s.Tempo[0] != edits.Start().Tempo[0] {
		t.Error(s, e)
	}
	for _, p := range []int{-1, 2} {
		if _, e := Session(r, p); e != api.ErrArg {
			t.Error(e)
		}
	}
}

func TestCheck(t *testing.T) {
	r, _ := New(2)
	o := bus
	o.Peer, o.No, o.Time = 1, 3, 1
	for i, f := range []func(*api.Room){
		func(r *api.Room) { r.Peers = nil }, func(r *api.Room) { r.Peers = make([]api.Peer, 17) }, func(r *api.Room) { r.Peers[0].Next = 257 }, func(r *api.Room) { r.Peers[0].Next = -1 }, func(r *api.Room) { r.Peers[0].Known = api.Log{Ops: []api.Op{{}}} },
		func(r *api.Room) { r.Peers[1] = api.Peer{Known: api.Log{Ops: []api.Op{o}}, Next: 3} }, func(r *api.Room) { r.Net.Apart = [][2]int{{1, 0}} }, func(r *api.Room) { r.Net.Queue = []api.Packet{{From: 0, To: 2, Data: encode(o)}} }, func(r *api.Room) { r.Net.Queue = []api.Packet{{From: 0, To: 1, Data: encode(bus)}} },
		func(r *api.Room) { r.Net.Queue = []api.Packet{{From: 0, To: 1}} }, func(r *api.Room) { r.Net.Queue = []api.Packet{{From: 0, To: 1, Data: append(encode(o), 0)}} },
	} {
		x := api.Room{Peers: slices.Clone(r.Peers), Net: r.Net}
		f(&x)
		_, e1 := Do(x, api.Act{})
		_, e2 := Session(x, 9)
		if Check(x) != api.ErrPeer || e1 != api.ErrPeer || e2 != api.ErrPeer {
			t.Error(i, Check(x), e1, e2)
		}
	}
	ok := api.Room{Peers: []api.Peer{{Known: api.Log{Ops: []api.Op{o}}}, {Known: api.Log{Ops: []api.Op{o}}, Next: 4}}, Net: api.Net{Queue: []api.Packet{{From: 0, To: 1, Data: encode(o)}}}}
	if Check(ok) != api.OK {
		t.Error("valid")
	}
}

func TestMessage(t *testing.T) {
	o := api.Op{Peer: 1, No: 2, Time: 3, Kind: api.PlaceO, A: 4, B: 5, C: -6, Clip: api.Clip{Kind: api.LayK, At: []int{7}, L: []api.Clip{{Kind: api.TakeK, Take: api.Digest{9}, From: 8, Len: 9}}}}
	take, none := api.Digest{9}, make([]byte, 32)
	l := ints(1, 2, 3, api.PlaceO, 4, 5, -6, 0, 0, 0)
	lay, leaf := ints(api.LayK), ints(api.TakeK)
	lay.L = append(append(append(lay.L, text(string(none))), ints(0, 0, 0, 0).L...), ints(7), ints(1).L[0])
	leaf.L = append(append(append(leaf.L, text(string(take[:]))), ints(8, 9, 0, 0).L...), ints(), ints(0).L[0])
	l.L = append(l.L, ints(0, 0, 0, 0, 0), api.Value{Kind: api.ListV, L: []api.Value{lay, leaf}}, text(""))
	want, _ := codec.Encode(l)
	if b := encode(o); !slices.Equal(b, want) {
		t.Error(b, want)
	}
	if x, ok := decode(want); !ok || !equal.Op(x, o) {
		t.Error(x, ok)
	}
	r := &fixtures.Random{State: 1}
	for i := range 200 {
		o := songs.Op(r, i%16, i)
		b := encode(o)
		if x, ok := decode(b); !ok || !equal.Op(x, o) {
			t.Fatal(o, x, ok)
		}
		b[r.Intn(len(b))] ^= byte(1 + r.Intn(255))
		if x, ok := decode(b); ok && !slices.Equal(encode(x), b) {
			t.Fatal("two messages")
		}
	}
}

func TestDo(t *testing.T) {
	r, _ := New(3)
	r = do(t, r, edit(1, bus))
	if p := r.Peers[1]; p.Next != 1 || len(p.Known.Ops) != 1 || p.Known.Ops[0].Time != 1 || p.Known.Ops[0].Peer != 1 || len(r.Net.Queue) != 2 || r.Net.Queue[0].To != 0 || r.Net.Queue[1].To != 2 || r.Net.Queue[0].From != 1 {
		t.Fatal(r)
	}
	full := r
	full.Peers = slices.Clone(r.Peers)
	full.Peers[0].Next = 256
	busy := r
	busy.Net.Queue = slices.Repeat(r.Net.Queue[:1], 4095)
	for i, x := range []struct {
		r    api.Room
		a    api.Act
		want api.Errno
	}{
		{r, api.Act{}, api.ErrArg}, {r, api.Act{Kind: 6}, api.ErrArg}, {r, edit(3, bus), api.ErrArg}, {r, edit(-1, bus), api.ErrArg}, {full, edit(0, api.Op{}), api.ErrLimit}, {r, edit(0, api.Op{}), api.ErrOp}, {r, edit(0, undoing(1, 0)), api.ErrUndo}, {r, edit(1, undoing(1, 1)), api.ErrUndo},
		{busy, edit(0, bus), api.ErrLimit}, {r, api.Act{Kind: api.SyncA, Peer: 1, To: 1}, api.ErrArg}, {r, api.Act{Kind: api.SyncA, Peer: 1, To: 3}, api.ErrArg}, {r, api.Act{Kind: api.SyncA, Peer: -1}, api.ErrArg}, {r, api.Act{Kind: api.DeliverA, At: 2}, api.ErrArg}, {r, api.Act{Kind: api.LoseA, At: -1}, api.ErrArg}, {r, api.Act{Kind: api.RepeatA, At: 2}, api.ErrArg},
	} {
		if y, e := Do(x.r, x.a); e != x.want || y.Peers != nil || y.Net.Queue != nil {
			t.Error(i, e)
		}
	}
	x := do(t, r, api.Act{Kind: api.DeliverA, At: 1}, edit(2, bus), api.Act{Kind: api.SyncA, Peer: 2, To: 0})
	if len(x.Peers[2].Known.Ops) != 2 || x.Peers[2].Known.Ops[1].Time != 2 || x.Peers[2].Next != 1 || len(x.Net.Queue) != 5 || len(x.Peers[0].Known.Ops) != 0 {
		t.Error(x)
	}
	y := do(t, r, api.Act{Kind: api.RepeatA}, api.Act{Kind: api.LoseA}, api.Act{Kind: api.DeliverA, At: 1}, edit(1, undoing(1, 0)))
	if len(y.Peers[0].Known.Ops) != 1 || len(y.Peers[1].Known.Ops) != 2 || len(r.Peers[0].Known.Ops) != 0 {
		t.Error(y)
	}
	if s, _ := Session(y, 1); len(s.Nodes) != 0 {
		t.Error(s)
	}
	cut := r
	cut.Net.Apart = [][2]int{{0, 1}}
	if z := do(t, cut, api.Act{Kind: api.DeliverA}); len(z.Peers[0].Known.Ops) != 0 || len(z.Net.Queue) != 1 {
		t.Error(z)
	}
	lost := api.Room{Peers: []api.Peer{{}, {}}, Net: api.Net{Queue: []api.Packet{{From: 0, To: 1, Data: r.Net.Queue[0].Data}}}}
	if z := do(t, lost, api.Act{Kind: api.DeliverA}); z.Peers[1].Next != 1 {
		t.Error("its own operation", z)
	}
}

func TestConvergence(t *testing.T) {
	r := &fixtures.Random{State: 4}
	for range 6 {
		room, _ := New(3)
		for range 90 {
			a := api.Act{Kind: 1 + r.Intn(5), Peer: r.Intn(3), To: r.Intn(3), At: r.Intn(9), Op: songs.Op(r, 0, 0)}
			if r.Intn(2) == 0 {
				a.Kind = api.EditA
			}
			if r.Intn(5) == 0 {
				a.Op = undoing(a.Peer, r.Intn(4))
			}
			if x, e := Do(room, a); e == api.OK {
				room = x
			}
		}
		room.Net.Queue = nil
		for from := range 3 {
			for to := range 3 {
				if from != to {
					room = do(t, room, api.Act{Kind: api.SyncA, Peer: from, To: to})
				}
			}
		}
		for len(room.Net.Queue) > 0 {
			room = do(t, room, api.Act{Kind: api.DeliverA, At: r.Intn(len(room.Net.Queue))})
		}
		many := 0
		for i, p := range room.Peers {
			many += p.Next
			if !merge.Same(p.Known, room.Peers[0].Known) || digest(t, room, i) != digest(t, room, 0) {
				t.Fatal("peers differ")
			}
		}
		if len(room.Peers[0].Known.Ops) != many || many < 20 {
			t.Fatal("operations", many)
		}
	}
}

// TestForms replaces each part of a message by one of another form.
func TestForms(t *testing.T) {
	o := api.Op{Peer: 1, No: 2, Time: 3, Kind: api.PlaceO, A: 4, Clip: api.Clip{Kind: api.LayK, At: []int{0}, L: []api.Clip{{Kind: api.TakeK, Take: api.Digest{9}, Len: 9}}}}
	v, _ := codec.Decode(encode(o))
	tried := 0
	replace := func(x *api.Value, y api.Value) {
		old := *x
		*x = y
		b, e := codec.Encode(v)
		if z, ok := decode(b); e != api.OK || ok && !slices.Equal(encode(z), b) {
			t.Error("accepted", y, e)
		}
		*x = old
		tried++
	}
	var change func(x *api.Value)
	change = func(x *api.Value) {
		for _, y := range []api.Value{ints(), ints(0), ints(0, 0, 0, 0, 0), text(""), text("abc"), ints(7).L[0], ints(-1).L[0]} {
			replace(x, y)
		}
		if x.Kind == api.ListV {
			replace(x, api.Value{Kind: api.ListV, L: append(slices.Clone(x.L), ints(0).L...)})
			replace(x, api.Value{Kind: api.ListV, L: append(slices.Clone(x.L), text(""))})
			replace(x, api.Value{Kind: api.ListV, L: x.L[:max(0, len(x.L)-1)]})
		}
		for i := range x.L {
			change(&x.L[i])
		}
	}
	change(&v)
	if tried < 200 {
		t.Error(tried)
	}
}
