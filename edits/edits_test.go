package edits_test

import (
	"slices"
	"strings"
	"testing"

	"soundpost/api"
	"soundpost/edits"
	"soundpost/fixtures"
	"soundpost/session"
	"soundpost/songs"
)

func op(kind int, f func(*api.Op)) api.Op {
	o := api.Op{Time: 1, Kind: kind}
	if f != nil {
		f(&o)
	}
	return o
}

func nums(kind, a, b, c, d int) api.Op {
	return api.Op{Time: 1, Kind: kind, A: a, B: b, C: c, D: d}
}

func numbered(o api.Op, peer, no int) api.Op {
	o.Peer, o.No = peer, no
	return o
}

var rest = api.Clip{Kind: api.RestK, Len: 3}

func TestCheck(t *testing.T) {
	knot := func(k api.Knot) api.Op { return op(api.KnotO, func(o *api.Op) { o.A, o.Knot = 1, k }) }
	hold := api.Knot{Shape: api.HoldC}
	place := func(a, b, c int, clip api.Clip) api.Op {
		return op(api.PlaceO, func(o *api.Op) { o.A, o.B, o.C, o.Clip = a, b, c, clip })
	}
	id := 1 << 20
	for i, o := range []api.Op{
		op(api.ProcO, func(o *api.Op) { o.Source = "x" }), op(api.ProcO, func(o *api.Op) { o.Source = strings.Repeat("x", 65536) }), nums(api.NodeO, 1, 0, 0, 0), nums(api.NodeO, 2, 63, 0, 0), nums(api.NodeO, 4, 0, 0, 0), nums(api.DropO, id, 0, 0, 0), nums(api.RouteO, 1, id, 1, 1<<20), nums(api.CutO, id, 1, 0, 0),
		nums(api.ParamO, -1<<31, 0, 0, 0), knot(hold), knot(api.Knot{At: 1 << 24, Value: 1<<31 - 1, Shape: api.BendC, A: 1, B: 16}), nums(api.UnknotO, 1, 1<<24, 0, 0), nums(api.BindO, 1, 0, 15, 0), nums(api.BindO, 0, id, 1, id), place(1, 1<<24, -1<<24, rest), place(id, 0, 1<<24, rest), nums(api.UnplaceO, 1, 1, 0, 0),
		nums(api.TempoO, 1<<24, 1<<20, 256, 1), nums(api.TempoO, 0, 1, 1, 0), op(api.UndoO, func(o *api.Op) { o.Of = [2]int{15, 255} }), numbered(nums(api.DropO, 1, 0, 0, 0), 15, 255), op(api.DropO, func(o *api.Op) { o.A, o.Time = 1, 1<<20 }),
	} {
		if e := edits.Check(o); e != api.OK {
			t.Error(i, e)
		}
	}
	for i, o := range []api.Op{
		{}, op(0, nil), op(14, nil), op(api.ProcO, nil), op(api.ProcO, func(o *api.Op) { o.Source = strings.Repeat("x", 65537) }), op(api.ProcO, func(o *api.Op) { o.Source, o.A = "x", 1 }), nums(api.NodeO, 0, 0, 0, 0), nums(api.NodeO, 5, 0, 0, 0), nums(api.NodeO, 1, 1, 0, 0), nums(api.NodeO, 2, 64, 0, 0), nums(api.NodeO, 2, -1, 0, 0), nums(api.NodeO, 3, 0, 1, 0),
		nums(api.DropO, 0, 0, 0, 0), nums(api.DropO, id+1, 0, 0, 0), nums(api.DropO, 1, 1, 0, 0), nums(api.RouteO, 1, 0, 0, 0), nums(api.RouteO, 1, 1, 2, 0), nums(api.RouteO, 1, 1, 0, 1<<20+1), nums(api.RouteO, 1, 1, 0, -1), nums(api.CutO, 1, 1, 0, 1), nums(api.CutO, 0, 1, 0, 0), nums(api.ParamO, 1<<31, 0, 0, 0), nums(api.ParamO, 1, 0, 0, 1),
		knot(api.Knot{}), knot(api.Knot{Shape: 1, A: 1}), knot(api.Knot{Shape: 3}), knot(api.Knot{Shape: 3, A: 17, B: 1}), knot(api.Knot{At: 1<<24 + 1, Shape: 1}), knot(api.Knot{Value: 1 << 31, Shape: 1}), op(api.KnotO, func(o *api.Op) { o.Knot = hold }), op(api.KnotO, func(o *api.Op) { o.A, o.B, o.Knot = 1, 1, hold }),
		nums(api.UnknotO, 1, 1<<24+1, 0, 0), nums(api.BindO, 1, 0, 16, 0), nums(api.BindO, 1, 0, 0, 1), nums(api.BindO, 0, 0, 0, 1), nums(api.BindO, 0, 0, 1, 0), nums(api.BindO, 1, id+1, 0, 0), nums(api.BindO, 1, -1, 0, 0), place(1, 0, 0, api.Clip{}), place(1, 0, 1<<24+1, rest), place(1, -1, 0, rest), place(0, 0, 0, rest),
		op(api.PlaceO, func(o *api.Op) { o.A, o.D, o.Clip = 1, 1, rest }), nums(api.UnplaceO, 1, 0, 0, 0), nums(api.TempoO, 0, 0, 1, 0), nums(api.TempoO, 0, 1, 257, 0), nums(api.TempoO, 0, 1, 1, 2), nums(api.TempoO, -1, 1, 1, 0), op(api.UndoO, func(o *api.Op) { o.Of = [2]int{16, 0} }), op(api.UndoO, func(o *api.Op) { o.Of = [2]int{0, -1} }), op(api.UndoO, func(o *api.Op) { o.A = 1 }),
		op(api.DropO, func(o *api.Op) { o.A, o.Time = 1, 0 }), op(api.DropO, func(o *api.Op) { o.A, o.Time = 1, 1<<20+1 }), numbered(nums(api.DropO, 1, 0, 0, 0), 16, 0), numbered(nums(api.DropO, 1, 0, 0, 0), 0, 256), op(api.DropO, func(o *api.Op) { o.A, o.Knot = 1, hold }), op(api.DropO, func(o *api.Op) { o.A, o.Clip = 1, rest }),
		op(api.DropO, func(o *api.Op) { o.A, o.Source = 1, "x" }), op(api.DropO, func(o *api.Op) { o.A, o.Of = 1, [2]int{0, 1} }),
	} {
		if e := edits.Check(o); e != api.ErrOp {
			t.Error(i, e)
		}
		if x, e := edits.Apply(edits.Start(), o); e != api.ErrOp || x.Tempo != nil {
			t.Error(i, e)
		}
	}
	if edits.Id(api.Op{}) != 1 || edits.Id(api.Op{Peer: 1, No: 2}) != 259 || edits.Id(api.Op{Peer: 16}) != 0 || edits.Id(api.Op{No: 256}) != 0 || edits.Id(api.Op{Peer: -1}) != 0 || edits.Id(api.Op{Peer: 15, No: 255}) != 4096 {
		t.Error("ids")
	}
	if s := edits.Start(); len(s.Tempo) != 1 || s.Tempo[0] != (api.Tempo{N: 1000, D: 48}) || session.Check(s) != api.OK {
		t.Error("start")
	}
	if _, e := edits.Apply(api.Session{}, api.Op{}); e != api.ErrSession {
		t.Error(e)
	}
	if _, e := edits.Apply(edits.Start(), op(api.UndoO, nil)); e != api.ErrOp {
		t.Error(e)
	}
}

func same(t *testing.T, a, b api.Session) bool {
	t.Helper()
	x, e := session.Digest(a)
	y, f := session.Digest(b)
	return e == api.OK && f == api.OK && x == y
}

// apply applies operations that must be accepted, numbered from the No on.
func apply(t *testing.T, s api.Session, no int, l ...api.Op) api.Session {
	t.Helper()
	for i, o := range l {
		x, e := edits.Apply(s, numbered(o, 0, no+i))
		if e != api.OK {
			t.Fatal(i, o, e)
		}
		s = x
	}
	return s
}

const source = "processor p latency 1 tail 0 { param a from 0 to 9; out in(1); } processor q latency 0 tail 0 { out 1; }"

// full has the processors of source, a track 2, a processor 3, a bus 4, an output 5 and a parameter 6.
func full(t *testing.T) api.Session {
	t.Helper()
	return apply(t, edits.Start(), 0, op(api.ProcO, func(o *api.Op) { o.Source = source }), nums(api.NodeO, api.TrackN, 0, 0, 0), nums(api.NodeO, api.ProcN, 0, 0, 0), nums(api.NodeO, api.BusN, 0, 0, 0), nums(api.NodeO, api.OutN, 0, 0, 0), nums(api.ParamO, 77, 0, 0, 0))
}

func TestApply(t *testing.T) {
	s := full(t)
	if len(s.Procs) != 2 || s.Procs[0].Stmts[0].X.Kind != api.InE || len(s.Nodes) != 4 || !slices.Equal(s.Nodes[1].Params, []int{0}) || s.Params[0].Id != 6 || s.Params[0].Value != 77 {
		t.Fatal(s)
	}
	knot := func(at, v int) api.Op {
		return op(api.KnotO, func(o *api.Op) { o.A, o.Knot = 6, api.Knot{At: at, Value: v, Shape: 1} })
	}
	place := op(api.PlaceO, func(o *api.Op) { o.A, o.B, o.C, o.Clip = 2, 3, 4, rest })
	x := apply(t, s, 20, nums(api.RouteO, 3, 4, 0, 0), nums(api.RouteO, 2, 3, 1, 7), nums(api.RouteO, 2, 3, 0, 0), nums(api.BindO, 3, 6, 0, 0), nums(api.BindO, 0, 6, 3, 4), knot(5, 1), knot(2, 2), knot(5, 3), place, nums(api.TempoO, 9, 3, 2, 0), nums(api.TempoO, 0, 3, 2, 1))
	if !slices.Equal(x.Routes, []api.Route{{From: 2, To: 3}, {From: 2, To: 3, Port: 1, Delay: 7}, {From: 3, To: 4, Gain: 6}}) || !slices.Equal(x.Nodes[1].Params, []int{6}) || !slices.Equal(x.Params[0].Knots, []api.Knot{{At: 2, Value: 2, Shape: 1}, {At: 5, Value: 3, Shape: 1}}) {
		t.Error(x)
	}
	if p := x.Nodes[0].Places; len(p) != 1 || p[0].Id != 29 || p[0].Tick != 3 || p[0].Off != 4 || p[0].Clip.Len != 3 || !slices.Equal(x.Tempo, []api.Tempo{{N: 3, D: 2, Ramp: true}, {Tick: 9, N: 3, D: 2}}) {
		t.Error(x)
	}
	back := apply(t, x, 40, nums(api.UnplaceO, 2, 29, 0, 0), nums(api.UnknotO, 6, 2, 0, 0), nums(api.UnknotO, 6, 5, 0, 0), nums(api.BindO, 3, 0, 0, 0), nums(api.CutO, 2, 3, 1, 0), nums(api.CutO, 2, 3, 0, 0), nums(api.CutO, 3, 4, 0, 0))
	back.Tempo = s.Tempo
	if !same(t, back, s) {
		t.Error(back)
	}
	dropped := apply(t, x, 40, nums(api.DropO, 3, 0, 0, 0))
	if len(dropped.Nodes) != 3 || len(dropped.Routes) != 0 || len(x.Nodes) != 4 {
		t.Error(dropped)
	}
	if y := apply(t, s, 30, nums(api.NodeO, api.BusN, 0, 0, 0)); y.Nodes[4].Id != 31 {
		t.Error(y.Nodes)
	}
	if y := apply(t, dropped, 2, nums(api.NodeO, api.BusN, 0, 0, 0)); y.Nodes[1].Id != 3 {
		t.Error(y.Nodes)
	}
}

func TestClash(t *testing.T) {
	s := apply(t, full(t), 20, nums(api.RouteO, 4, 5, 0, 0), op(api.PlaceO, func(o *api.Op) { o.A, o.Clip = 2, rest }), op(api.KnotO, func(o *api.Op) { o.A, o.Knot = 6, api.Knot{At: 3, Shape: 1} }))
	src := func(text string) api.Op { return op(api.ProcO, func(o *api.Op) { o.Source = text }) }
	for i, o := range []api.Op{
		src("x"), src(" "), src("processor z latency 0 tail 0 { out a; }"), src(source), src("processor z latency 0 tail 0 { out in(1); }"), numbered(nums(api.NodeO, 3, 0, 0, 0), 0, 1), nums(api.NodeO, 2, 2, 0, 0), nums(api.DropO, 9, 0, 0, 0), nums(api.RouteO, 4, 5, 0, 3), nums(api.RouteO, 4, 9, 0, 0), nums(api.RouteO, 5, 4, 0, 0), nums(api.RouteO, 4, 5, 1, 0),
		nums(api.RouteO, 4, 4, 0, 0), nums(api.CutO, 4, 5, 1, 0), nums(api.CutO, 2, 5, 0, 0), numbered(nums(api.ParamO, 3, 0, 0, 0), 0, 5), op(api.KnotO, func(o *api.Op) { o.A, o.Knot = 7, api.Knot{Shape: 1} }), nums(api.UnknotO, 6, 4, 0, 0), nums(api.UnknotO, 7, 3, 0, 0), nums(api.BindO, 3, 6, 1, 0), nums(api.BindO, 3, 7, 0, 0), nums(api.BindO, 4, 6, 0, 0), nums(api.BindO, 0, 6, 2, 5), nums(api.BindO, 0, 7, 4, 5),
		op(api.PlaceO, func(o *api.Op) { o.A, o.Clip = 4, rest }), numbered(op(api.PlaceO, func(o *api.Op) { o.A, o.Clip = 2, rest }), 0, 21), op(api.PlaceO, func(o *api.Op) { o.A, o.C, o.Clip = 2, -1, rest }), nums(api.UnplaceO, 2, 23, 0, 0), nums(api.UnplaceO, 4, 22, 0, 0), nums(api.TempoO, 5, 1, 1, 1),
	} {
		if o.No == 0 {
			o.No = 99
		}
		if x, e := edits.Apply(s, o); e != api.ErrClash || x.Tempo != nil {
			t.Error(i, o, e)
		}
	}
	if x := apply(t, s, 50, nums(api.RouteO, 4, 4, 0, 1)); len(x.Routes) != 2 {
		t.Error(x.Routes)
	}
}

// TestAlways applies arbitrary operations.
func TestAlways(t *testing.T) {
	r := &fixtures.Random{State: 2}
	s := full(t)
	done := 0
	for i := range 400 {
		o := songs.Op(r, i%16, i/16)
		x, e := edits.Apply(s, o)
		if e == api.ErrOp || e == api.OK && session.Check(x) != api.OK {
			t.Fatal(o, e)
		}
		if e == api.OK {
			done++
			s = x
		}
	}
	if done < 100 {
		t.Error(done)
	}
}
