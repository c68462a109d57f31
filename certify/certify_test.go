package certify

import (
	"slices"
	"testing"

	"soundpost/api"
	"soundpost/fixtures"
	"soundpost/graph"
	"soundpost/plan"
)

func edge(from, to, weight, delay int) api.Edge {
	return api.Edge{From: from, To: to, Weight: weight, Delay: delay}
}

var three = api.Graph{Latency: []int{0, 3, 0}, Edges: []api.Edge{edge(0, 1, 1, 0), edge(1, 2, 1, 0), edge(0, 2, 1, 0)}}

func TestBound(t *testing.T) {
	one := api.Graph{Latency: []int{0, 0}, Edges: []api.Edge{edge(0, 1, 2, 0)}}
	for i, x := range []struct {
		g    api.Graph
		flow []int
		want int
		e    api.Errno
	}{
		{api.Graph{}, nil, 0, api.OK}, {one, []int{1}, 0, api.ErrCert}, {one, []int{2}, 0, api.OK}, {one, nil, 0, api.ErrCert}, {three, []int{1, 1, 1}, 0, api.OK}, {three, []int{2, 2, 0}, 3, api.OK}, {three, []int{3, 3, -1}, 0, api.ErrCert},
		{api.Graph{Latency: []int{0}, Edges: []api.Edge{edge(0, 0, 1, 0)}}, []int{1}, 0, api.ErrLoop}, {api.Graph{Latency: []int{0}, Edges: []api.Edge{edge(0, 0, 1, 2)}}, []int{1 << 20}, 2 - 1<<21, api.OK},
		{api.Graph{Latency: []int{0}, Edges: []api.Edge{edge(0, 0, 1, 2)}}, []int{1<<20 + 1}, 0, api.ErrCert},
	} {
		if n, e := Bound(x.g, x.flow); n != x.want || e != x.e {
			t.Error(i, n, e)
		}
	}
}

func TestCheck(t *testing.T) {
	p, _ := plan.Memory(three, []int{0, 0, 3})
	for i, x := range []struct {
		p    api.Plan
		flow []int
		ok   bool
		e    api.Errno
	}{
		{p, []int{2, 2, 0}, true, api.OK}, {p, []int{1, 1, 1}, false, api.OK}, {p, []int{1, 1, 0}, false, api.ErrCert}, {api.Plan{}, nil, false, api.ErrPlan},
		{api.Plan{At: p.At, Delay: p.Delay, Memory: 4}, []int{2, 2, 0}, false, api.ErrPlan}, {api.Plan{At: p.At, Delay: []int{0, 0, 2}, Memory: 3}, []int{2, 2, 0}, false, api.ErrPlan},
	} {
		if ok, e := Check(three, x.p, x.flow); ok != x.ok || e != x.e {
			t.Error(i, ok, e)
		}
	}
	worse, _ := plan.Memory(three, []int{0, 1, 4})
	if flow, e := Make(three, worse); e != api.ErrCert || flow != nil {
		t.Error(flow, e)
	}
	if flow, e := Make(three, api.Plan{}); e != api.ErrPlan || flow != nil {
		t.Error(flow, e)
	}
	bad := api.Graph{Latency: []int{-1}}
	_, e1 := Make(bad, p)
	_, e2 := Check(bad, p, nil)
	if e1 != api.ErrGraph || e2 != api.ErrGraph {
		t.Error(e1, e2)
	}
}

func TestMake(t *testing.T) {
	r := &fixtures.Random{State: 11}
	for range 1500 {
		g := api.Graph{}
		for range 1 + r.Intn(7) {
			g.Latency = append(g.Latency, r.Intn(5))
		}
		for range r.Intn(12) {
			g.Edges = append(g.Edges, edge(r.Intn(len(g.Latency)), r.Intn(len(g.Latency)), r.Intn(5), r.Intn(14)))
		}
		if graph.Check(g) != api.OK {
			continue
		}
		best, _ := plan.Make(g)
		flow, e := Make(g, best)
		if e != api.OK {
			t.Fatal(g, best, e)
		}
		if ok, e := Check(g, best, flow); !ok || e != api.OK {
			t.Fatal(g, best, flow, e)
		}
		at, _ := plan.Least(g)
		for v := range at {
			at[v] += r.Intn(2)
		}
		other, e := plan.Memory(g, at)
		if e != api.OK {
			continue
		}
		flow, e = Make(g, other)
		if (e == api.OK) != (other.Memory == best.Memory) || e != api.OK && (e != api.ErrCert || flow != nil) {
			t.Fatal(g, other, best, e)
		}
	}
}

func TestLarge(t *testing.T) {
	r := &fixtures.Random{State: 4}
	g := api.Graph{Latency: make([]int, 4096)}
	for v := range g.Latency {
		g.Latency[v] = r.Intn(4097)
	}
	for range 16384 {
		from := r.Intn(4095)
		g.Edges = append(g.Edges, edge(from, min(4095, from+1+r.Intn(300)), 1+r.Intn(64), r.Intn(100)))
	}
	p, _ := plan.Make(g)
	flow, e := Make(g, p)
	if ok, f := Check(g, p, flow); !ok || e != api.OK || f != api.OK || slices.Max(flow) > 1<<20 {
		t.Error(ok, e, f)
	}
}
