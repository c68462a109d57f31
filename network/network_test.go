package network

import (
	"slices"
	"testing"

	"soundpost/api"
)

func packet(from, to int, data ...byte) api.Packet { return api.Packet{From: from, To: to, Data: data} }

func zero(n api.Net) bool { return n.Queue == nil && n.Apart == nil }

func sent(t *testing.T, n api.Net, l ...api.Packet) api.Net {
	t.Helper()
	for _, p := range l {
		x, e := Send(n, p)
		if e != api.OK || Check(x) != api.OK || len(x.Queue) != len(n.Queue)+1 {
			t.Fatal(e)
		}
		n = x
	}
	return n
}

func TestSend(t *testing.T) {
	for i, p := range []api.Packet{packet(3, 3), packet(-1, 0), packet(0, 16), {From: 0, To: 1, Data: make([]byte, 1<<20+1)}} {
		if x, e := Send(New(), p); e != api.ErrNet || !zero(x) {
			t.Error(i, e)
		}
	}
	n := sent(t, New(), packet(0, 15, 1), api.Packet{From: 1, To: 2, Data: make([]byte, 1<<20)})
	full := api.Net{Queue: make([]api.Packet, 4096)}
	for i := range full.Queue {
		full.Queue[i] = packet(0, 1)
	}
	if x, e := Send(full, packet(0, 1)); e != api.ErrLimit || !zero(x) {
		t.Error(e)
	}
	if x, e := Repeat(full, 0); e != api.ErrLimit || !zero(x) {
		t.Error(e)
	}
	if _, e := Repeat(full, 4096); e != api.ErrArg {
		t.Error(e)
	}
	full.Queue = append(full.Queue, packet(0, 1))
	bad := []api.Net{full, {Queue: []api.Packet{{}}}, {Apart: [][2]int{{1, 0}}}, {Apart: [][2]int{{0, 1}, {0, 1}}}, {Apart: [][2]int{{1, 2}, {0, 3}}}, {Apart: [][2]int{{3, 16}}}, {Apart: [][2]int{{2, 2}}}}
	for i, b := range bad {
		_, e1 := Send(b, packet(0, 1))
		_, _, e2 := Deliver(b, -1)
		_, e3 := Lose(b, 9)
		_, e4 := Repeat(b, 0)
		_, e5 := Cut(b, 1, 1, true)
		if Check(b) != api.ErrNet || e1 != api.ErrNet || e2 != api.ErrNet || e3 != api.ErrNet || e4 != api.ErrNet || e5 != api.ErrNet {
			t.Error(i)
		}
	}
	if len(n.Queue) != 2 {
		t.Error("the queue is changed")
	}
}

func TestDeliver(t *testing.T) {
	n := sent(t, New(), packet(0, 1, 1), packet(1, 2, 2), packet(2, 0, 3))
	p, x, e := Deliver(n, 1)
	if e != api.OK || p.From != 1 || p.To != 2 || p.Data[0] != 2 || len(x.Queue) != 2 || x.Queue[1].Data[0] != 3 || len(n.Queue) != 3 || n.Queue[1].Data[0] != 2 {
		t.Error(p, x, e)
	}
	for _, at := range []int{-1, 3} {
		p, x, e := Deliver(n, at)
		_, e2 := Lose(n, at)
		if e != api.ErrArg || e2 != api.ErrArg || p.Data != nil || !zero(x) {
			t.Error(at)
		}
	}
	y, e := Repeat(n, 0)
	if e != api.OK || len(y.Queue) != 4 || y.Queue[3].Data[0] != 1 {
		t.Error(y, e)
	}
	if z, e := Lose(n, 0); e != api.OK || len(z.Queue) != 2 || z.Queue[0].Data[0] != 2 {
		t.Error(z, e)
	}
	for _, way := range [][2]int{{0, 1}, {1, 0}} {
		c, _ := Cut(n, way[0], way[1], true)
		if p, x, e := Deliver(c, 0); e != api.OK || p.From != p.To || p.Data != nil || len(x.Queue) != 2 {
			t.Error(p, e)
		}
	}
}

func TestCut(t *testing.T) {
	n := New()
	for _, p := range [][2]int{{3, 1}, {0, 2}, {4, 1}, {1, 3}} {
		x, e := Cut(n, p[0], p[1], true)
		if e != api.OK || Check(x) != api.OK {
			t.Fatal(e)
		}
		n = x
	}
	if !slices.Equal(n.Apart, [][2]int{{0, 2}, {1, 3}, {1, 4}}) {
		t.Error(n.Apart)
	}
	x, _ := Cut(n, 3, 1, false)
	if !slices.Equal(x.Apart, [][2]int{{0, 2}, {1, 4}}) || len(n.Apart) != 3 {
		t.Error(x.Apart)
	}
	for _, p := range [][2]int{{2, 2}, {-1, 3}, {0, 16}} {
		if x, e := Cut(n, p[0], p[1], true); e != api.ErrArg || !zero(x) {
			t.Error(p, e)
		}
	}
}
