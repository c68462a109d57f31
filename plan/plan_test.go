package plan

import (
	"slices"
	"testing"

	"soundpost/api"
	"soundpost/fixtures"
	"soundpost/graph"
)

func edge(from, to, weight, delay int) api.Edge {
	return api.Edge{From: from, To: to, Weight: weight, Delay: delay}
}

func TestLeast(t *testing.T) {
	for i, x := range []struct {
		g           api.Graph
		least, best []int
		memory      int
	}{
		{api.Graph{}, nil, nil, 0}, {api.Graph{Latency: []int{5}}, []int{0}, []int{0}, 0},
		{api.Graph{Latency: []int{3, 0, 0}, Edges: []api.Edge{edge(0, 1, 1, 0), edge(2, 1, 1, 0)}}, []int{0, 3, 0}, []int{0, 3, 3}, 0},
		{api.Graph{Latency: []int{3, 0, 0}, Edges: []api.Edge{edge(0, 1, 1, 0), edge(2, 1, 0, 0)}}, []int{0, 3, 0}, []int{0, 3, 0}, 0},
		{api.Graph{Latency: []int{2, 0}, Edges: []api.Edge{edge(0, 1, 1, 5)}}, []int{0, 0}, []int{3, 0}, 0},
		{api.Graph{Latency: []int{0, 3, 0}, Edges: []api.Edge{edge(0, 1, 1, 0), edge(1, 2, 1, 0), edge(0, 2, 1, 0)}}, []int{0, 0, 3}, []int{0, 0, 3}, 3},
		{api.Graph{Latency: []int{1, 2}, Edges: []api.Edge{edge(0, 1, 2, 0), edge(1, 0, 3, 9)}}, []int{0, 1}, []int{0, 7}, 12},
	} {
		at, e := Least(x.g)
		if e != api.OK || !slices.Equal(at, x.least) {
			t.Error(i, at, e)
		}
		if p, e := Make(x.g); e != api.OK || !slices.Equal(p.At, x.best) || p.Memory != x.memory {
			t.Error(i, p, e)
		}
	}
	g := api.Graph{Latency: []int{2, 0}, Edges: []api.Edge{edge(0, 1, 1, 5)}}
	if p, e := Memory(g, []int{0, 0}); e != api.OK || !slices.Equal(p.Delay, []int{3}) || p.Memory != 3 {
		t.Error(p, e)
	}
}

func TestErrors(t *testing.T) {
	g := api.Graph{Latency: []int{2, 0}, Edges: []api.Edge{edge(0, 1, 1, 0)}}
	for i, x := range []struct {
		at   []int
		want api.Errno
	}{
		{[]int{0, 2}, api.OK}, {[]int{-1, 2}, api.ErrPlan}, {[]int{0, 1}, api.ErrPlan}, {[]int{0}, api.ErrPlan}, {[]int{0, 2, 0}, api.ErrPlan}, {[]int{0, 1 << 40}, api.OK}, {[]int{0, 1<<40 + 1}, api.ErrPlan},
		{[]int{1<<40 - 2, 1 << 40}, api.OK},
	} {
		if p, e := Memory(g, x.at); e != x.want || e != api.OK && (p.At != nil || p.Delay != nil) {
			t.Error(i, p, e)
		}
	}
	bad := api.Graph{Latency: []int{0}, Edges: []api.Edge{edge(0, 0, 1, 0)}}
	_, e1 := Least(bad)
	_, e2 := Memory(bad, nil)
	_, e3 := Make(bad)
	if e1 != api.ErrLoop || e2 != api.ErrLoop || e3 != api.ErrLoop {
		t.Error(e1, e2, e3)
	}
}

// TestConsequences compares plans with the plans of positions nearby, and with those of graphs with longer delays.
func TestConsequences(t *testing.T) {
	r := &fixtures.Random{State: 9}
	tried := 0
	for range 2000 {
		g := api.Graph{}
		for range 1 + r.Intn(6) {
			g.Latency = append(g.Latency, r.Intn(5))
		}
		for range r.Intn(9) {
			g.Edges = append(g.Edges, edge(r.Intn(len(g.Latency)), r.Intn(len(g.Latency)), r.Intn(4), r.Intn(12)))
		}
		if graph.Check(g) != api.OK {
			continue
		}
		tried++
		best, _ := Make(g)
		least, _ := Least(g)
		for range 60 {
			at := slices.Clone(best.At)
			for v := range at {
				at[v] += r.Intn(3) * (r.Intn(5) - 2)
			}
			p, e := Memory(g, at)
			if e != api.OK {
				continue
			}
			for v := range at {
				if least[v] > at[v] || p.Memory == best.Memory && best.At[v] > at[v] {
					t.Fatal(g, best, p)
				}
			}
			if p.Memory < best.Memory {
				t.Fatal(g, best, p)
			}
		}
		if len(g.Edges) > 0 {
			k := r.Intn(len(g.Edges))
			longer := g
			longer.Edges = slices.Clone(g.Edges)
			longer.Edges[k].Delay += 3
			if p, _ := Make(longer); p.Memory > best.Memory+3*g.Edges[k].Weight {
				t.Fatal("longer", g, k)
			}
		}
	}
	if tried < 500 {
		t.Error(tried)
	}
}
