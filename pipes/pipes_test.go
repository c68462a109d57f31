package pipes_test

import (
	"slices"
	"testing"

	"soundpost/api"
	"soundpost/equal"
	"soundpost/fixtures"
	"soundpost/pipes"
	"soundpost/plan"
	"soundpost/pool"
	"soundpost/render"
	"soundpost/session"
	"soundpost/songs"
)

var flat = []api.Tempo{{N: 1, D: 1}}

func TestCheck(t *testing.T) {
	empty := api.Session{Tempo: flat}
	two := api.Session{Tempo: flat, Nodes: []api.Node{{Id: 1, Kind: api.BusN}, {Id: 2, Kind: api.OutN}}, Routes: []api.Route{{From: 1, To: 2}}}
	for i, x := range []struct {
		s    api.Session
		p    api.Plan
		want api.Errno
	}{
		{empty, api.Plan{}, api.OK}, {empty, api.Plan{Memory: 1}, api.ErrPlan}, {api.Session{}, api.Plan{}, api.ErrSession}, {two, api.Plan{}, api.ErrPlan}, {two, api.Plan{At: []int{0, 3}, Delay: []int{3}, Memory: 3}, api.OK},
		{two, api.Plan{At: []int{0, 3}, Delay: []int{2}, Memory: 3}, api.ErrPlan}, {two, api.Plan{At: []int{3, 0}, Delay: []int{-3}, Memory: -3}, api.ErrPlan}, {two, api.Plan{At: []int{0, 3}, Memory: 3}, api.ErrPlan},
	} {
		l, e := pipes.Run(x.s, api.Pool{}, x.p, 2)
		if pipes.Check(x.s, x.p) != x.want || e != x.want || e != api.OK && l != nil {
			t.Error(i, pipes.Check(x.s, x.p), e)
		}
	}
	p, _ := plan.Memory(api.Graph{Latency: []int{0, 0}, Edges: []api.Edge{{To: 1, Weight: 1}}}, []int{0, 0})
	for n, want := range map[int]api.Errno{-1: api.ErrArg, 65537: api.ErrArg, 0: api.OK, 65536: api.OK} {
		l, e := pipes.Run(two, api.Pool{}, p, n)
		if e != want || e == api.OK && (len(l) != 1 || len(l[0]) != n) {
			t.Error(n, e)
		}
	}
	far, _ := plan.Memory(api.Graph{Latency: []int{0, 0}, Edges: []api.Edge{{To: 1, Weight: 1}}}, []int{0, 1 << 40})
	if l, e := pipes.Run(two, api.Pool{}, far, 5); e != api.OK || !slices.Equal(l[0], make([]int, 5)) {
		t.Error(l, e)
	}
}

// late returns what outputs with their positions put out at n output samples.
func late(t *testing.T, s api.Session, p api.Pool, at []int, n int) [][]int {
	t.Helper()
	ideal, e := render.Outs(s, p, 0, n)
	if e != api.OK {
		t.Fatal(e)
	}
	k := 0
	for v, x := range s.Nodes {
		if x.Kind == api.OutN {
			ideal[k] = append(make([]int, min(n, at[v])), ideal[k]...)[:n]
			k++
		}
	}
	return ideal
}

func TestRun(t *testing.T) {
	r := &fixtures.Random{State: 2}
	for range 40 {
		s, p := songs.Make(r, songs.Options{Nodes: 5})
		g, _ := session.Graph(s)
		best, _ := plan.Make(g)
		least, _ := plan.Least(g)
		for v := range least {
			least[v] += 3
		}
		other, e := plan.Memory(g, least)
		if e != api.OK {
			t.Fatal(e)
		}
		for _, x := range []api.Plan{best, other} {
			got, e := pipes.Run(s, p, x, 50)
			if e != api.OK || !equal.Lists(got, late(t, s, p, x.At, 50)) {
				t.Fatal(got, e)
			}
			short, _ := pipes.Run(s, p, x, 20)
			for k := range short {
				if !slices.Equal(short[k], got[k][:20]) {
					t.Fatal("a longer run")
				}
			}
		}
	}
}

func TestTrack(t *testing.T) {
	p, d, _ := pool.Put(api.Pool{}, []int{5, 6, 7})
	s := api.Session{Tempo: flat, Nodes: []api.Node{{Id: 1, Kind: api.TrackN, Places: []api.Place{{Id: 1, Clip: api.Clip{Kind: api.TakeK, Take: d, Len: 3}}}}, {Id: 2, Kind: api.OutN}}, Routes: []api.Route{{From: 1, To: 2}}}
	if l, e := pipes.Run(s, p, api.Plan{At: []int{0, 0}, Delay: []int{0}}, 4); e != api.OK || !slices.Equal(l[0], []int{5, 6, 7, 0}) {
		t.Error(l, e)
	}
	if l, e := pipes.Run(s, p, api.Plan{At: []int{1, 3}, Delay: []int{2}, Memory: 2}, 6); e != api.OK || !slices.Equal(l[0], []int{0, 0, 0, 5, 6, 7}) {
		t.Error(l, e)
	}
}
