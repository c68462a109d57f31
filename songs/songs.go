// Package songs makes arbitrary sessions for tests.
package songs

import (
	"slices"

	"soundpost/api"
	"soundpost/fixtures"
	"soundpost/pool"
	"soundpost/session"
)

// Options say what a session may contain.
type Options struct {
	// Finite sessions have neither cycles nor tails that last forever.
	Finite bool
	// Nodes is how many busses and processors there are at most.
	Nodes int
}

// song is a session that is being made.
type song struct {
	*fixtures.Random
	api.Session
	options Options
	takes   []api.Digest
}

// Make returns a valid session, and a pool for it.
func Make(r *fixtures.Random, o Options) (s api.Session, p api.Pool) {
	x := &song{Random: r, options: o}
	for range 3 {
		data := make([]int, 1+r.Intn(20))
		for i := range data {
			data[i] = r.Sample()
		}
		q, d, _ := pool.Put(p, data)
		p, x.takes = q, append(x.takes, d)
	}
	x.Tempo = []api.Tempo{{N: 1 + r.Intn(4), D: 1 + r.Intn(3), Ramp: true}, {Tick: 1 + r.Intn(9), N: 1 + r.Intn(4), D: 1}}
	x.procs()
	x.params()
	x.nodes()
	x.routes()
	return x.Session, p
}

func (x *song) procs() {
	for i := range 3 {
		for {
			p := x.Proc("p" + string(rune('a'+i)))
			if !x.options.Finite || p.Tail >= 0 {
				x.Procs = append(x.Procs, p)
				break
			}
		}
	}
}

func (x *song) knots(sparse int) []api.Knot {
	var l []api.Knot
	at := 0
	for range x.Intn(4) {
		k := api.Knot{At: at, Value: x.Intn(140000) - 4000, Shape: 1 + x.Intn(3)}
		if k.Shape == api.BendC {
			k.A, k.B = 1+x.Intn(16), 1+x.Intn(16)
		}
		l = append(l, k)
		at += 1 + x.Intn(sparse)
	}
	return l
}

func (x *song) params() {
	for id := range 5 {
		p := api.Param{Id: 10 + id, Value: x.Intn(140000) - 4000, Knots: x.knots(6)}
		for range x.Intn(3) {
			from := x.Intn(20)
			to := from + 1 + x.Intn(10)
			g := api.Gesture{Mode: 1 + x.Intn(3), From: from, To: to, Until: to, Knots: x.knots(9)}
			if g.Mode == api.LatchM {
				g.Until += x.Intn(9)
			}
			if len(g.Knots) > 0 {
				p.Gestures = append(p.Gestures, g)
			}
		}
		x.Params = append(x.Params, p)
	}
	x.Links = []api.Link{{From: 10, To: 12, Num: x.Intn(9) - 4, Den: 1 + x.Intn(5), Add: x.Intn(60000)}, {From: 12, To: 14, Num: 1, Den: 2}}
}

// param returns the Id of a parameter, or 0.
func (x *song) param() int { return []int{0, 0, 10, 11, 12, 13, 14}[x.Intn(7)] }

func (x *song) nodes() {
	add := func(n api.Node) {
		n.Id = len(x.Nodes)*2 + 1
		x.Nodes = append(x.Nodes, n)
	}
	for range 2 {
		var l []api.Place
		for id := range x.Intn(4) {
			l = append(l, api.Place{Id: id + 1, Tick: x.Intn(9), Off: x.Intn(5), Clip: x.Clip(x.takes, 3)})
		}
		add(api.Node{Kind: api.TrackN, Places: l})
	}
	for range 1 + x.Intn(x.options.Nodes) {
		if x.Intn(2) == 0 {
			add(api.Node{Kind: api.BusN})
		} else {
			add(api.Node{Kind: api.ProcN, Proc: x.Intn(3), Params: []int{x.param(), x.param()}})
		}
	}
	add(api.Node{Kind: api.OutN})
	add(api.Node{Kind: api.OutN})
}

// routes adds routes as long as the session remains valid.
func (x *song) routes() {
	for range 4 * x.options.Nodes {
		from, to := x.Intn(len(x.Nodes)), x.Intn(len(x.Nodes))
		if x.options.Finite && from >= to || x.Nodes[to].Kind == api.OutN && x.Intn(2) == 0 {
			continue
		}
		r := api.Route{From: from*2 + 1, To: to*2 + 1, Gain: x.param(), Delay: x.Intn(2) * x.Intn(12)}
		if x.Intn(3) == 0 && x.Nodes[to].Kind == api.ProcN {
			r.Port = api.SideP
		}
		x.add(r)
	}
}

func (x *song) add(r api.Route) {
	key := func(r api.Route) []int { return []int{r.From, r.To, r.Port} }
	at, found := slices.BinarySearchFunc(x.Routes, r, func(a, b api.Route) int { return slices.Compare(key(a), key(b)) })
	if found {
		return
	}
	s := x.Session
	s.Routes = slices.Insert(slices.Clone(x.Routes), at, r)
	if session.Check(s) == api.OK {
		x.Session = s
	}
}
