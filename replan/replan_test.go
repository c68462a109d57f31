package replan_test

import (
	"slices"
	"testing"

	"soundpost/api"
	"soundpost/equal"
	"soundpost/fixtures"
	"soundpost/graph"
	"soundpost/pipes"
	"soundpost/plan"
	"soundpost/pool"
	"soundpost/render"
	"soundpost/replan"
	"soundpost/session"
	"soundpost/songs"
)

func edge(from, to, weight, delay int) api.Edge {
	return api.Edge{From: from, To: to, Weight: weight, Delay: delay}
}

func stage(from int, l ...int) api.Stage { return api.Stage{From: from, Latency: l} }

func TestCommon(t *testing.T) {
	two := api.Graph{Latency: []int{0, 0}, Edges: []api.Edge{edge(0, 1, 1, 0)}}
	for i, x := range []struct {
		g      api.Graph
		outs   []int
		stages []api.Stage
		want   [][]int
		e      api.Errno
	}{
		{api.Graph{}, nil, []api.Stage{stage(0)}, [][]int{nil}, api.OK}, {api.Graph{}, nil, nil, nil, api.ErrArg}, {two, []int{0, 1}, []api.Stage{stage(0, 0, 0)}, [][]int{{0, 0}}, api.OK}, {two, []int{0, 1}, []api.Stage{stage(0, 1, 0)}, nil, api.ErrPlan},
		{two, []int{1}, []api.Stage{stage(0, 3, 0), stage(5, 1, 9), stage(6, 0, 0)}, [][]int{{0, 3}, {2, 3}, {3, 3}}, api.OK}, {two, nil, []api.Stage{stage(0, 3, 0), stage(5, 1, 9)}, [][]int{{0, 3}, {0, 1}}, api.OK},
		{two, []int{1, 0}, []api.Stage{stage(0, 0, 0)}, nil, api.ErrArg}, {two, []int{2}, []api.Stage{stage(0, 0, 0)}, nil, api.ErrArg}, {two, []int{-1}, []api.Stage{stage(0, 0, 0)}, nil, api.ErrArg}, {two, nil, []api.Stage{stage(1, 0, 0)}, nil, api.ErrArg},
		{two, nil, []api.Stage{stage(0, 0, 0), stage(0, 0, 0)}, nil, api.ErrArg}, {two, nil, []api.Stage{stage(0, 0)}, nil, api.ErrArg}, {two, nil, []api.Stage{stage(0, 0, 4097)}, nil, api.ErrArg}, {two, nil, []api.Stage{stage(0, 0, -1)}, nil, api.ErrArg}, {two, nil, make([]api.Stage, 257), nil, api.ErrLimit},
		{api.Graph{Latency: []int{0}, Edges: []api.Edge{edge(0, 0, 1, 2)}}, []int{0}, []api.Stage{stage(0, 1), stage(1, 2)}, nil, api.ErrLoop}, {api.Graph{Latency: []int{9999}, Edges: []api.Edge{edge(0, 1, 1, 2)}}, nil, []api.Stage{stage(0, 1)}, nil, api.ErrGraph},
	} {
		l, e := replan.Common(x.g, x.outs, x.stages)
		if e != x.e || len(l) != len(x.want) {
			t.Error(i, l, e)
			continue
		}
		for k := range l {
			if !slices.Equal(l[k].At, x.want[k]) {
				t.Error(i, k, l[k].At)
			}
		}
		if s, f := replan.Steps(x.g, x.outs, x.stages, -1); e != api.OK && f != e || e == api.OK && f != api.ErrArg || s != nil {
			t.Error(i, f)
		}
	}
	if _, e := replan.Steps(two, nil, []api.Stage{stage(0, 0, 0)}, 65537); e != api.ErrLimit {
		t.Error(e)
	}
}

func TestSteps(t *testing.T) {
	one := api.Graph{Latency: []int{0}}
	l, e := replan.Steps(one, []int{0}, []api.Stage{stage(0, 2), stage(5, 0)}, 6)
	if want := []api.Step{{At: 2, From: 0, To: 1}, {At: 3, From: 1, To: 2}, {At: 4, From: 2, To: 3}, {At: 5, From: 3, To: 6}}; e != api.OK || !slices.Equal(l, want) {
		t.Error(l, e)
	}
	back, _ := replan.Steps(one, nil, []api.Stage{stage(0, 0), stage(2, 2)}, 6)
	if want := []api.Step{{At: 0, From: 0, To: 1}, {At: 1, From: 1, To: 2}, {At: 4, From: 2, To: 3}, {At: 5, From: 3, To: 4}}; !slices.Equal(back, want) {
		t.Error(back)
	}
}

// TestCheapest tries all positions with the outs at the common position.
func TestCheapest(t *testing.T) {
	r := &fixtures.Random{State: 1}
	for range 150 {
		g := api.Graph{Latency: make([]int, 1+r.Intn(4))}
		n := len(g.Latency)
		for range r.Intn(6) {
			g.Edges = append(g.Edges, edge(r.Intn(n), r.Intn(n), r.Intn(3), r.Intn(5)))
		}
		var stages []api.Stage
		for k := range 1 + r.Intn(3) {
			s := api.Stage{From: 3 * k}
			for range n {
				s.Latency = append(s.Latency, r.Intn(3))
			}
			stages = append(stages, s)
		}
		outs := []int{r.Intn(n)}
		if o := r.Intn(n); o > outs[0] {
			outs = append(outs, o)
		}
		plans, e := replan.Common(g, outs, stages)
		if e != api.OK {
			continue
		}
		p := 0
		for k, s := range stages {
			least, _ := plan.Least(api.Graph{Latency: s.Latency, Edges: g.Edges})
			for _, o := range outs {
				p = max(p, least[o])
				if plans[k].At[o] != plans[0].At[outs[0]] {
					t.Fatal("outs")
				}
			}
		}
		if p != plans[0].At[outs[0]] {
			t.Fatal("position", p, plans)
		}
		for k, s := range stages {
			if best := cheapest(api.Graph{Latency: s.Latency, Edges: g.Edges}, outs, p); !slices.Equal(best.At, plans[k].At) || best.Memory != plans[k].Memory {
				t.Fatal(g, outs, s, best, plans[k])
			}
		}
	}
}

func cheapest(g api.Graph, outs []int, p int) api.Plan {
	const bound = 16
	at := make([]int, len(g.Latency))
	var best api.Plan
	var walk func(v int)
	walk = func(v int) {
		if v < len(at) {
			for at[v] = range bound {
				if !slices.Contains(outs, v) || at[v] == p {
					walk(v + 1)
				}
			}
			return
		}
		x, e := plan.Memory(g, at)
		if e == api.OK && (best.At == nil || x.Memory < best.Memory || x.Memory == best.Memory && slices.Compare(x.At, best.At) < 0) {
			best = x
		}
	}
	if graph.Check(g) == api.OK {
		walk(0)
	}
	return best
}

func TestPlay(t *testing.T) {
	p, d, _ := pool.Put(api.Pool{}, []int{5, 6, 7, 8})
	s := api.Session{
		Tempo: []api.Tempo{{N: 1, D: 1}}, Procs: fixtures.Resolve("processor p latency 1 tail 0 { out in(1); }"),
		Nodes:  []api.Node{{Id: 1, Kind: api.TrackN, Places: []api.Place{{Id: 1, Clip: api.Clip{Kind: api.TakeK, Take: d, Len: 4}}}}, {Id: 2, Kind: api.ProcN}, {Id: 3, Kind: api.OutN}},
		Routes: []api.Route{{From: 1, To: 2}, {From: 2, To: 3}},
	}
	for i, x := range []struct {
		stages []api.Stage
		n      int
		want   []int
		e      api.Errno
	}{
		{[]api.Stage{stage(0, 0, 1, 0), stage(3, 0, 4, 0)}, 8, []int{0, 0, 0, 0, 6, 7, 8, 0}, api.OK}, {[]api.Stage{stage(0, 0, 1, 0)}, 3, []int{0, 6, 7}, api.OK}, {[]api.Stage{stage(0, 0, 9, 0)}, 3, []int{0, 0, 0}, api.OK}, {[]api.Stage{stage(0, 0, 1, 0)}, 0, nil, api.OK},
		{[]api.Stage{stage(0, 1, 0, 0)}, -1, nil, api.ErrArg}, {[]api.Stage{stage(0, 0, 0, 0)}, -1, nil, api.ErrLatency}, {[]api.Stage{stage(0, 0, 1, 0)}, -1, nil, api.ErrArg}, {[]api.Stage{stage(0, 0, 1, 0)}, 65537, nil, api.ErrLimit}, {nil, 3, nil, api.ErrArg},
	} {
		l, e := replan.Play(s, p, x.stages, x.n)
		if e != x.e || e == api.OK && !slices.Equal(l[0], x.want) || e != api.OK && l != nil {
			t.Error(i, l, e)
		}
	}
	if _, e := replan.Play(api.Session{}, p, nil, -1); e != api.ErrSession {
		t.Error(e)
	}
}

// TestPipeline compares one stage with the pipeline.
func TestPipeline(t *testing.T) {
	r := &fixtures.Random{State: 8}
	compared := 0
	for range 40 {
		s, p := songs.Make(r, songs.Options{Nodes: 4})
		g, _ := session.Graph(s)
		var outs []int
		for v, x := range s.Nodes {
			if x.Kind == api.OutN {
				outs = append(outs, v)
			}
		}
		stages := []api.Stage{{Latency: g.Latency}}
		plans, e := replan.Common(g, outs, stages)
		if e == api.ErrPlan {
			continue
		}
		compared++
		a, e1 := replan.Play(s, p, stages, 30)
		b, e2 := pipes.Run(s, p, plans[0], 30)
		if e1 != api.OK || e2 != api.OK || !equal.Lists(a, b) {
			t.Fatal(e1, e2)
		}
		checkSteps(t, r, s, p, g, outs)
	}
	if compared < 5 {
		t.Error(compared)
	}
}

// checkSteps checks that what a step needs has been performed before.
func checkSteps(t *testing.T, r *fixtures.Random, s api.Session, p api.Pool, g api.Graph, outs []int) {
	t.Helper()
	var stages []api.Stage
	for k := range 3 {
		x := api.Stage{From: 7 * k, Latency: slices.Clone(g.Latency)}
		for v, n := range s.Nodes {
			if n.Kind == api.ProcN {
				x.Latency[v] += r.Intn(4)
			}
		}
		stages = append(stages, x)
	}
	l, e := replan.Steps(g, outs, stages, 40)
	if e != api.OK {
		return
	}
	done := make([]int, len(g.Latency))
	for i := 0; i < len(l); {
		m := l[i].At
		for ; i < len(l) && l[i].At == m; i++ {
			if l[i].From != done[l[i].Node] {
				t.Fatal("a gap", l[i])
			}
			done[l[i].Node] = l[i].To
		}
		for _, e := range g.Edges {
			if needed := done[e.To] + g.Latency[e.To] - e.Delay; done[e.To] > 0 && needed > done[e.From] {
				t.Fatal("not yet performed", e, m, done)
			}
		}
	}
	if _, e := render.Outs(s, p, 0, 1); e != api.OK {
		t.Fatal(e)
	}
}

func TestGreatest(t *testing.T) {
	var stages []api.Stage
	for i := range 256 {
		stages = append(stages, stage(i, i%2))
	}
	one := api.Graph{Latency: []int{0}}
	if l, e := replan.Steps(one, []int{0}, stages, 65536); e != api.OK || l[len(l)-1].At != 65535 {
		t.Error(e)
	}
}
