package chunks_test

import (
	"slices"
	"testing"

	"soundpost/api"
	"soundpost/chunks"
	"soundpost/codec"
	"soundpost/digest"
	"soundpost/equal"
	"soundpost/fixtures"
	"soundpost/pipes"
	"soundpost/plan"
	"soundpost/session"
	"soundpost/songs"
)

var flat = []api.Tempo{{N: 1, D: 1}}

// small is a track, a processor that remembers and looks ahead, and an output.
func small() (api.Session, api.Plan) {
	s := api.Session{
		Tempo: flat, Procs: fixtures.Resolve("processor p latency 2 tail forever { state s from -9 to 9; line d 2 from 1 to 5; set s = min(9, s + 1); push d = 3; out sat(in(2) + side(1) + s); }"),
		Nodes:  []api.Node{{Id: 1, Kind: api.TrackN}, {Id: 2, Kind: api.ProcN}, {Id: 3, Kind: api.OutN}},
		Routes: []api.Route{{From: 1, To: 2}, {From: 1, To: 2, Port: api.SideP, Delay: 1}, {From: 2, To: 3}},
	}
	g, _ := session.Graph(s)
	p, _ := plan.Make(g)
	return s, p
}

func TestStart(t *testing.T) {
	s, p := small()
	x, e := chunks.Start(s, p)
	want := api.Snap{States: []api.State{{}, {Values: []int{0}, Lines: [][]int{{0, 0}}}, {}}, Ins: [][]int{nil, {0, 0}, nil}, Sides: [][]int{nil, {0, 0}, nil}, Lines: [][]int{nil, {0}, nil}}
	if e != api.OK || !chunks.Same(x, want) {
		t.Error(x, e)
	}
	if x, e := chunks.Start(api.Session{}, api.Plan{}); e != api.ErrSession || !chunks.Same(x, api.Snap{}) {
		t.Error(e)
	}
	if _, e := chunks.Start(s, api.Plan{}); e != api.ErrPlan {
		t.Error(e)
	}
	if x, e := chunks.Start(api.Session{Tempo: flat}, api.Plan{}); e != api.OK || !chunks.Same(x, api.Snap{}) {
		t.Error(x, e)
	}
}

func TestCheck(t *testing.T) {
	s, p := small()
	fresh := func() api.Snap {
		x, _ := chunks.Start(s, p)
		return x
	}
	for i, f := range []func(*api.Snap){
		func(x *api.Snap) { x.At = -1 }, func(x *api.Snap) { x.At = 1<<40 + 1 }, func(x *api.Snap) { x.States = x.States[:2] }, func(x *api.Snap) { x.States[0].Values = []int{0} }, func(x *api.Snap) { x.States[1].Values[0] = 10 },
		func(x *api.Snap) { x.States[1].Lines[0][0] = 6 }, func(x *api.Snap) { x.States[1].Lines = nil }, func(x *api.Snap) { x.States[2].Lines = [][]int{nil} }, func(x *api.Snap) { x.Ins = x.Ins[1:] }, func(x *api.Snap) { x.Ins[0] = []int{1} },
		func(x *api.Snap) { x.Ins[1] = []int{1} }, func(x *api.Snap) { x.Ins[1][0] = 1 << 31 }, func(x *api.Snap) { x.Sides[1] = nil }, func(x *api.Snap) { x.Lines = nil }, func(x *api.Snap) { x.Lines[1] = []int{0, 0} }, func(x *api.Snap) { x.Lines[1][0] = -1<<31 - 1 },
	} {
		x := fresh()
		f(&x)
		out, y, e := chunks.Render(s, api.Pool{}, p, x, -1)
		if chunks.Check(s, p, x) != api.ErrSnap || e != api.ErrSnap || out != nil || !chunks.Same(y, api.Snap{}) {
			t.Error(i, chunks.Check(s, p, x), e)
		}
	}
	for i, c := range []struct {
		at, n int
		want  api.Errno
	}{{0, -1, api.ErrArg}, {0, 65537, api.ErrArg}, {1 << 40, 1, api.ErrArg}, {1 << 40, 0, api.OK}, {1<<40 - 5, 5, api.OK}, {0, 0, api.OK}} {
		x := fresh()
		x.At = c.at
		out, y, e := chunks.Render(s, api.Pool{}, p, x, c.n)
		if e != c.want || e == api.OK && (len(out) != 1 || len(out[0]) != c.n || y.At != c.at+c.n || c.n == 0 && !chunks.Same(x, y)) {
			t.Error(i, e)
		}
	}
	if _, _, e := chunks.Render(api.Session{}, api.Pool{}, p, api.Snap{}, 0); e != api.ErrSession {
		t.Error(e)
	}
}

// TestBlocks renders in blocks of any size, also in sessions with cycles.
func TestBlocks(t *testing.T) {
	r := &fixtures.Random{State: 5}
	for range 40 {
		s, p := songs.Make(r, songs.Options{Nodes: 6})
		g, _ := session.Graph(s)
		at, _ := plan.Least(g)
		for v := range at {
			at[v] += 2
		}
		made, e := plan.Memory(g, at)
		if e != api.OK || r.Intn(2) == 0 {
			made, _ = plan.Make(g)
		}
		want, _ := pipes.Run(s, p, made, 60)
		got := make([][]int, len(want))
		x, _ := chunks.Start(s, made)
		first := x
		for x.At < 60 {
			out, y, e := chunks.Render(s, p, made, x, min(r.Intn(14), 60-x.At))
			if e != api.OK || chunks.Check(s, made, y) != api.OK {
				t.Fatal(e)
			}
			for k := range out {
				got[k] = append(got[k], out[k]...)
			}
			x = y
		}
		if !equal.Lists(got, want) {
			t.Fatal(got, want)
		}
		if _, y, _ := chunks.Render(s, p, made, first, 60); !chunks.Same(x, y) {
			t.Fatal("another snap", x, y)
		}
		if again, _ := chunks.Start(s, made); !chunks.Same(first, again) {
			t.Fatal("the first snap is changed")
		}
	}
}

// TestAnySnap goes on from a snap that no pipeline reaches.
func TestAnySnap(t *testing.T) {
	s, p := small()
	x := api.Snap{At: 1, States: []api.State{{}, {Values: []int{5}, Lines: [][]int{{1, 2}}}, {}}, Ins: [][]int{nil, {10, 20}, nil}, Sides: [][]int{nil, {100, 200}, nil}, Lines: [][]int{nil, {7}, nil}}
	out, y, e := chunks.Render(s, api.Pool{}, p, x, 3)
	// The processor performs no step at 1; at 2 and 3 it hears side(1) of the steps 0 and 1.
	if e != api.OK || !slices.Equal(out[0], []int{0, 13, 7}) {
		t.Error(out, e)
	}
	if y.States[1].Values[0] != 7 || !slices.Equal(y.States[1].Lines[0], []int{3, 3}) || !slices.Equal(y.Sides[1], []int{0, 0}) || y.At != 4 {
		t.Error(y)
	}
}

func TestDigest(t *testing.T) {
	num := func(n int) api.Value { return api.Value{Kind: api.IntV, N: n} }
	list := func(l ...api.Value) api.Value { return api.Value{Kind: api.ListV, L: l} }
	x := api.Snap{At: -3, States: []api.State{{Values: []int{1, 2}, Lines: [][]int{{3}}}, {}}, Ins: [][]int{{4}}, Sides: [][]int{nil, {5, 6}}, Lines: [][]int{{7}}}
	want := list(num(-3), list(list(list(num(1), num(2)), list(list(num(3)))), list(list(), list())), list(list(num(4))), list(list(), list(num(5), num(6))), list(list(num(7))))
	b, _ := codec.Encode(want)
	if d, e := chunks.Digest(x); e != api.OK || d != digest.Tagged("snap", b) {
		t.Error(e)
	}
	y := x
	y.Sides = [][]int{{}, {5, 7}}
	if !chunks.Same(x, x) || chunks.Same(x, y) || chunks.Same(x, api.Snap{At: -3}) {
		t.Error("same")
	}
}
