package graph

import (
	"slices"
	"testing"

	"soundpost/api"
	"soundpost/fixtures"
)

func edge(from, to, delay int) api.Edge { return api.Edge{From: from, To: to, Weight: 1, Delay: delay} }

func TestCheck(t *testing.T) {
	there := func(a, b int) api.Graph {
		return api.Graph{Latency: []int{3, 4}, Edges: []api.Edge{edge(0, 1, a), edge(1, 0, b)}}
	}
	one := func(f func(*api.Graph)) api.Graph {
		g := api.Graph{Latency: []int{0}, Edges: []api.Edge{edge(0, 0, 1)}}
		f(&g)
		return g
	}
	for i, x := range []struct {
		g    api.Graph
		want api.Errno
	}{
		{api.Graph{}, api.OK}, {there(0, 7), api.ErrLoop}, {there(0, 8), api.OK}, {there(7, 0), api.ErrLoop}, {api.Graph{Latency: []int{0, 0}, Edges: []api.Edge{edge(0, 2, 0)}}, api.ErrGraph},
		{api.Graph{Latency: make([]int, 4097)}, api.ErrLimit}, {api.Graph{Latency: make([]int, 4096)}, api.OK}, {api.Graph{Latency: []int{-1}, Edges: make([]api.Edge, 16385)}, api.ErrLimit},
		{one(func(g *api.Graph) {}), api.OK}, {one(func(g *api.Graph) { g.Edges[0].Delay = 0 }), api.ErrLoop}, {one(func(g *api.Graph) { g.Latency[0] = 4097 }), api.ErrGraph}, {one(func(g *api.Graph) { g.Latency[0] = -1 }), api.ErrGraph},
		{one(func(g *api.Graph) { g.Edges[0].From = -1 }), api.ErrGraph}, {one(func(g *api.Graph) { g.Edges[0].Weight = 65 }), api.ErrGraph}, {one(func(g *api.Graph) { g.Edges[0].Weight = -1 }), api.ErrGraph},
		{one(func(g *api.Graph) { g.Edges[0].Delay = 1<<20 + 1 }), api.ErrGraph}, {one(func(g *api.Graph) { g.Edges[0].Delay = -1 }), api.ErrGraph}, {one(func(g *api.Graph) { g.Edges[0].Delay = 1 << 20 }), api.OK},
		{one(func(g *api.Graph) { g.Edges = slices.Repeat(g.Edges, 16384) }), api.OK},
	} {
		l, ok, e := Loop(x.g)
		if Check(x.g) != x.want || ok != (x.want == api.ErrLoop) || x.want != api.ErrLoop && (e != x.want || l != nil) {
			t.Error(i, Check(x.g), l, ok, e)
		}
		if _, e := Reach(x.g, -1); x.want != api.OK && x.want != api.ErrLoop && e != x.want {
			t.Error(i, e)
		}
	}
}

// isLoop checks that edges are a cycle that is too short.
func isLoop(g api.Graph, l []int) bool {
	sum, from := 0, map[int]bool{}
	for i, k := range l {
		x, next := g.Edges[k], g.Edges[l[(i+1)%len(l)]]
		if x.To != next.From || from[x.From] {
			return false
		}
		from[x.From] = true
		sum += x.Delay - g.Latency[x.From]
	}
	return len(l) > 0 && sum <= 0
}

// hasLoop tries all simple cycles.
func hasLoop(g api.Graph) bool {
	var walk func(start, at, sum int, seen []bool) bool
	walk = func(start, at, sum int, seen []bool) bool {
		for _, x := range g.Edges {
			if x.From != at {
				continue
			}
			s := sum + x.Delay - g.Latency[at]
			if x.To == start && s <= 0 {
				return true
			}
			if !seen[x.To] && x.To > start {
				seen[x.To] = true
				if walk(start, x.To, s, seen) {
					return true
				}
				seen[x.To] = false
			}
		}
		return false
	}
	for v := range g.Latency {
		if walk(v, v, 0, make([]bool, len(g.Latency))) {
			return true
		}
	}
	return false
}

func TestLoop(t *testing.T) {
	r := &fixtures.Random{State: 1}
	for range 2000 {
		g := api.Graph{}
		for range 1 + r.Intn(6) {
			g.Latency = append(g.Latency, r.Intn(4))
		}
		for range r.Intn(10) {
			g.Edges = append(g.Edges, edge(r.Intn(len(g.Latency)), r.Intn(len(g.Latency)), r.Intn(9)))
		}
		l, ok, e := Loop(g)
		if e != api.OK || ok != hasLoop(g) || ok && !isLoop(g, l) {
			t.Fatal(g, l, ok, e)
		}
		again, _, _ := Loop(g)
		if !slices.Equal(l, again) || (Check(g) == api.ErrLoop) != ok {
			t.Fatal("another one")
		}
	}
}

func TestReach(t *testing.T) {
	g := api.Graph{Latency: make([]int, 6), Edges: []api.Edge{edge(4, 2, 0), edge(2, 4, 0), edge(2, 0, 0), edge(5, 1, 0), edge(0, 0, 0)}}
	for from, want := range [][]int{{0}, {1}, {0, 2, 4}, {3}, {0, 2, 4}, {1, 5}} {
		if l, e := Reach(g, from); e != api.OK || !slices.Equal(l, want) {
			t.Error(from, l, e)
		}
	}
	for _, from := range []int{-1, 6} {
		if l, e := Reach(g, from); e != api.ErrArg || l != nil {
			t.Error(from, e)
		}
	}
}
