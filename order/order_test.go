package order

import (
	"slices"
	"testing"

	"soundpost/api"
	"soundpost/fixtures"
	"soundpost/graph"
)

func made(n int, l ...[2]int) api.Graph {
	g := api.Graph{Latency: make([]int, n)}
	for _, x := range l {
		g.Edges = append(g.Edges, api.Edge{From: x[0], To: x[1], Delay: 1})
	}
	return g
}

func TestParts(t *testing.T) {
	for i, x := range []struct {
		g    api.Graph
		want [][]int
	}{
		{made(3, [2]int{2, 0}, [2]int{0, 1}, [2]int{1, 0}), [][]int{{2}, {0, 1}}}, {made(3), [][]int{{0}, {1}, {2}}}, {api.Graph{}, nil}, {made(1, [2]int{0, 0}), [][]int{{0}}},
		{made(5, [2]int{4, 1}, [2]int{1, 4}, [2]int{3, 0}, [2]int{1, 0}), [][]int{{1, 4}, {2}, {3}, {0}}},
	} {
		l, e := Parts(x.g)
		if e != api.OK || !slices.EqualFunc(l, x.want, slices.Equal[[]int]) {
			t.Error(i, l, e)
		}
	}
	bad := made(1, [2]int{0, 0})
	bad.Edges[0].Delay = 0
	if l, e := Parts(bad); e != api.ErrLoop || l != nil {
		t.Error(e)
	}
	if l, e := Sequence(bad, []int{-1}); e != api.ErrLoop || l != nil {
		t.Error(e)
	}
}

func TestSequence(t *testing.T) {
	g := made(3, [2]int{2, 0}, [2]int{0, 1}, [2]int{1, 0})
	for i, x := range []struct {
		delay, want []int
		e           api.Errno
	}{
		{[]int{0, 0, 5}, []int{2, 0, 1}, api.OK}, {[]int{1, 0, 5}, []int{0, 1, 2}, api.OK}, {[]int{1, 0, 0}, nil, api.ErrLoop}, {[]int{1, 0}, nil, api.ErrArg}, {[]int{1, 0, -1}, nil, api.ErrArg}, {[]int{1, 1, 0}, []int{1, 0, 2}, api.OK},
	} {
		if l, e := Sequence(g, x.delay); e != x.e || !slices.Equal(l, x.want) {
			t.Error(i, l, e)
		}
	}
	if l, e := Sequence(made(1, [2]int{0, 0}), []int{0}); e != api.ErrLoop || l != nil {
		t.Error(e)
	}
	if l, e := Sequence(made(3), nil); e != api.OK || !slices.Equal(l, []int{0, 1, 2}) {
		t.Error(l, e)
	}
}

func TestConsequences(t *testing.T) {
	r := &fixtures.Random{State: 5}
	for range 300 {
		n := 1 + r.Intn(8)
		var l [][2]int
		for range r.Intn(12) {
			l = append(l, [2]int{r.Intn(n), r.Intn(n)})
		}
		g := made(n, l...)
		parts, e := Parts(g)
		if e != api.OK {
			t.Fatal(e)
		}
		of := map[int]int{}
		for i, p := range parts {
			if !slices.IsSorted(p) {
				t.Fatal(p)
			}
			for _, v := range p {
				of[v] = i
			}
		}
		if len(of) != n {
			t.Fatal("a node is missing")
		}
		for v := range n {
			reached, _ := graph.Reach(g, v)
			for w := range n {
				back, _ := graph.Reach(g, w)
				if (of[v] == of[w]) != (slices.Contains(reached, w) && slices.Contains(back, v)) {
					t.Fatal(g, parts)
				}
			}
		}
		for _, x := range g.Edges {
			if of[x.From] > of[x.To] {
				t.Fatal("an edge leads back", g, parts)
			}
		}
		zero := make([]int, len(g.Edges))
		nodes, e := Sequence(g, zero)
		if e == api.OK && !slices.Equal(nodes, slices.Concat(parts...)) {
			t.Fatal(nodes, parts)
		}
		for i := range zero {
			zero[i] = 1
		}
		if nodes, _ := Sequence(g, zero); !slices.IsSorted(nodes) || len(nodes) != n {
			t.Fatal(nodes)
		}
	}
}
