package chunks_test

import (
	"slices"
	"testing"

	"soundpost/api"
	"soundpost/chunks"
	"soundpost/equal"
	"soundpost/fixed"
	"soundpost/fixtures"
	"soundpost/meaning"
	"soundpost/order"
	"soundpost/places"
	"soundpost/plan"
	"soundpost/session"
	"soundpost/songs"
)

// slow performs one output sample as chapter 34 says, and returns what each node puts out.
func slow(s api.Session, p api.Pool, made api.Plan, x api.Snap) ([]int, api.Snap) {
	g, _ := session.Graph(s)
	sequence, _ := order.Sequence(g, made.Delay)
	y := api.Snap{At: x.At + 1, States: slices.Clone(x.States), Ins: slices.Clone(x.Ins), Sides: slices.Clone(x.Sides), Lines: slices.Clone(x.Lines)}
	put := make([]int, len(s.Nodes))
	mix := func(v, port, t int) int {
		if t < 0 {
			return 0
		}
		var l []int
		for i, r := range s.Routes {
			if g.Edges[i].To != v || r.Port != port {
				continue
			}
			sample, gain := put[g.Edges[i].From], []int{api.Unity}
			if made.Delay[i] > 0 {
				sample = x.Lines[i][0]
			}
			if r.Gain != 0 {
				gain, _ = session.Values(s, r.Gain, t, 1)
			}
			l = append(l, fixed.Mul(sample, gain[0]))
		}
		return fixed.Mix(l)
	}
	for _, v := range sequence {
		t, n := x.At-made.At[v], s.Nodes[v]
		main, side := mix(v, api.MainP, t), mix(v, api.SideP, t)
		y.Ins[v] = append(slices.Clone(x.Ins[v]), main)
		y.Sides[v] = append(slices.Clone(x.Sides[v]), side)
		if at := t - g.Latency[v]; at >= 0 {
			switch n.Kind {
			case api.TrackN:
				l, _ := places.Samples(p, s.Tempo, n.Places, at, 1)
				put[v] = l[0]
			case api.ProcN:
				c, _ := session.Controls(s, n.Id, at, 1)
				put[v], y.States[v], _ = meaning.Step(s.Procs[n.Proc], c[0], y.Ins[v], y.Sides[v], x.States[v])
			default:
				put[v] = main
			}
		}
		y.Ins[v], y.Sides[v] = y.Ins[v][1:], y.Sides[v][1:]
	}
	for i, d := range made.Delay {
		if d > 0 {
			y.Lines[i] = append(slices.Clone(x.Lines[i][1:]), put[g.Edges[i].From])
		}
	}
	return put, y
}

// wild returns a valid snap with arbitrary samples.
func wild(r *fixtures.Random, s api.Session, made api.Plan) api.Snap {
	x, _ := chunks.Start(s, made)
	x.At = r.Intn(12)
	for _, lists := range [][][]int{x.Ins, x.Sides, x.Lines} {
		for _, l := range lists {
			for i := range l {
				l[i] = r.Sample()
			}
		}
	}
	for v, n := range s.Nodes {
		if n.Kind != api.ProcN {
			continue
		}
		for i, b := range s.Procs[n.Proc].States {
			x.States[v].Values[i] = b.Lo + r.Intn(b.Hi-b.Lo+1)
		}
		for i, l := range s.Procs[n.Proc].Lines {
			for k := range x.States[v].Lines[i] {
				x.States[v].Lines[i][k] = l.Lo + r.Intn(l.Hi-l.Lo+1)
			}
		}
	}
	return x
}

// TestWild goes on from arbitrary snaps, sample by sample and in one block.
func TestWild(t *testing.T) {
	r := &fixtures.Random{State: 12}
	for range 30 {
		s, p := songs.Make(r, songs.Options{Nodes: 6})
		g, _ := session.Graph(s)
		at, _ := plan.Least(g)
		for v := range at {
			at[v] += 4
		}
		made, e := plan.Memory(g, at)
		if e != api.OK {
			t.Fatal(e)
		}
		first := wild(r, s, made)
		if chunks.Check(s, made, first) != api.OK {
			t.Fatal("not valid")
		}
		var want [][]int
		x := first
		for range 20 {
			var put, outs []int
			put, x = slow(s, p, made, x)
			for v, n := range s.Nodes {
				if n.Kind == api.OutN {
					outs = append(outs, put[v])
				}
			}
			want = append(want, outs)
		}
		got, y, e := chunks.Render(s, p, made, first, 20)
		for m := range want {
			var outs []int
			for _, l := range got {
				outs = append(outs, l[m])
			}
			if !slices.Equal(outs, want[m]) {
				t.Fatal(m, outs, want[m])
			}
		}
		for v, n := range s.Nodes {
			if n.Kind == api.ProcN && !equal.State(x.States[v], y.States[v]) {
				t.Fatal("state", v)
			}
		}
		if e != api.OK || !equal.Lists(x.Lines, y.Lines) || !equal.Lists(x.Ins, y.Ins) || !equal.Lists(x.Sides, y.Sides) {
			t.Fatal("snap")
		}
	}
}
