package workers_test

import (
	"slices"
	"testing"

	"soundpost/api"
	"soundpost/chunks"
	"soundpost/equal"
	"soundpost/fixtures"
	"soundpost/plan"
	"soundpost/session"
	"soundpost/songs"
	"soundpost/workers"
)

var flat = []api.Tempo{{N: 1, D: 1}}

func TestTasks(t *testing.T) {
	if a, b, e := workers.Tasks(api.Session{Tempo: flat}); e != api.OK || len(a) != 0 || len(b) != 0 {
		t.Error(a, b, e)
	}
	if a, b, e := workers.Tasks(api.Session{}); e != api.ErrSession || a != nil || b != nil {
		t.Error(e)
	}
	s := api.Session{
		Tempo:  flat,
		Nodes:  []api.Node{{Id: 1, Kind: api.OutN}, {Id: 2, Kind: api.BusN}, {Id: 3, Kind: api.TrackN}, {Id: 4, Kind: api.BusN}, {Id: 5, Kind: api.TrackN}},
		Routes: []api.Route{{From: 2, To: 1}, {From: 2, To: 4, Delay: 1}, {From: 3, To: 1}, {From: 3, To: 2}, {From: 4, To: 2}, {From: 5, To: 1}, {From: 5, To: 4}},
	}
	tasks, needs, e := workers.Tasks(s)
	if e != api.OK || !equal.Lists(tasks, [][]int{{2}, {4}, {1, 3}, {0}}) || !equal.Lists(needs, [][]int{nil, nil, {0, 1}, {0, 1, 2}}) {
		t.Error(tasks, needs, e)
	}
}

func TestTurns(t *testing.T) {
	for i, x := range []struct {
		needs     [][]int
		workers   int
		script    []int
		who, task []int
		e         api.Errno
	}{
		{nil, 1, nil, nil, nil, api.OK}, {nil, 0, nil, nil, nil, api.ErrArg}, {[][]int{{0}}, 1, nil, nil, nil, api.ErrTask}, {[][]int{nil, {0}, {0}}, 2, []int{1}, []int{1, 0, 1}, []int{0, 1, 2}, api.OK},
		{[][]int{nil, nil, nil}, 2, []int{1, 0, 1}, []int{1, 0, 1}, []int{0, 2, 1}, api.OK}, {make([][]int, 4097), 0, nil, nil, nil, api.ErrLimit}, {nil, 0, make([]int, 65537), nil, nil, api.ErrLimit}, {nil, 17, nil, nil, nil, api.ErrArg}, {[][]int{{0}}, 1, []int{-1}, nil, nil, api.ErrArg},
		{[][]int{nil, {-1}}, 1, nil, nil, nil, api.ErrTask}, {[][]int{nil, nil, {1, 0}}, 1, nil, nil, nil, api.ErrTask}, {[][]int{nil, nil, {0, 0}}, 1, nil, nil, nil, api.ErrTask}, {[][]int{nil, nil, nil}, 1, []int{5, 7}, []int{0, 0, 0}, []int{2, 1, 0}, api.OK},
		{[][]int{nil, nil, nil, nil}, 3, []int{5}, []int{2, 0, 1, 2}, []int{0, 3, 1, 2}, api.OK}, {[][]int{nil, {0}, {0, 1}}, 3, []int{2, 2, 1}, []int{2, 2, 1}, []int{0, 1, 2}, api.OK},
	} {
		who, task, e := workers.Turns(x.needs, x.workers, x.script)
		if e != x.e || !slices.Equal(who, x.who) || !slices.Equal(task, x.task) {
			t.Error(i, who, task, e)
		}
	}
}

func TestRender(t *testing.T) {
	r := &fixtures.Random{State: 4}
	for range 25 {
		s, p := songs.Make(r, songs.Options{Nodes: 6})
		g, _ := session.Graph(s)
		made, _ := plan.Make(g)
		x, _ := chunks.Start(s, made)
		_, x, _ = chunks.Render(s, p, made, x, r.Intn(9))
		before, _ := chunks.Digest(x)
		want, after, _ := chunks.Render(s, p, made, x, 30)
		var script []int
		for range r.Intn(12) {
			script = append(script, r.Intn(9))
		}
		out, y, e := workers.Render(s, p, made, x, 30, 1+r.Intn(5), script)
		if e != api.OK || !equal.Lists(out, want) || !chunks.Same(y, after) {
			t.Fatal(out, want, e)
		}
		if d, _ := chunks.Digest(x); d != before {
			t.Fatal("the snap is changed")
		}
		tasks, needs, _ := workers.Tasks(s)
		_, task, _ := workers.Turns(needs, 3, script)
		done := map[int]bool{}
		for _, k := range task {
			for _, n := range needs[k] {
				if !done[n] {
					t.Fatal("a need is not done")
				}
			}
			done[k] = true
		}
		if len(done) != len(tasks) {
			t.Fatal("a task is left out")
		}
	}
	empty := api.Session{Tempo: flat}
	for i, x := range []struct {
		s          api.Session
		plan       api.Plan
		snap       api.Snap
		n, workers int
		script     []int
		want       api.Errno
	}{
		{api.Session{}, api.Plan{}, api.Snap{}, 0, 1, nil, api.ErrSession}, {empty, api.Plan{Memory: 1}, api.Snap{At: -1}, 0, 1, nil, api.ErrPlan}, {empty, api.Plan{}, api.Snap{At: -1}, -1, 1, nil, api.ErrSnap}, {empty, api.Plan{}, api.Snap{}, -1, 0, make([]int, 65537), api.ErrArg},
		{empty, api.Plan{}, api.Snap{}, 1, 0, make([]int, 65537), api.ErrLimit}, {empty, api.Plan{}, api.Snap{}, 1, 0, nil, api.ErrArg}, {empty, api.Plan{}, api.Snap{At: 1 << 40}, 1, 1, nil, api.ErrArg}, {empty, api.Plan{}, api.Snap{}, 1, 1, nil, api.OK},
	} {
		if _, _, e := workers.Render(x.s, api.Pool{}, x.plan, x.snap, x.n, x.workers, x.script); e != x.want {
			t.Error(i, e)
		}
	}
}

func TestGreatest(t *testing.T) {
	who, task, e := workers.Turns(make([][]int, 4096), 16, make([]int, 65536))
	if e != api.OK || len(who) != 4096 || task[0] != 4095 {
		t.Error(e)
	}
	if _, x, e := workers.Render(api.Session{Tempo: flat}, api.Pool{}, api.Plan{}, api.Snap{At: 1<<40 - 5}, 5, 1, nil); e != api.OK || x.At != 1<<40 {
		t.Error(x, e)
	}
}
