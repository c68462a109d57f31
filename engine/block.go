package engine

import (
	"soundpost/api"
	"soundpost/places"
	"soundpost/whole"
)

// route is the samples that leave a route from the first output sample of a block on: what it held, and what has entered it since.
type route struct {
	samples []int
	delay   int
}

func (r *route) enter(l []int) { r.samples = append(r.samples, l...) }

// rest returns what the route holds after n output samples.
func (r *route) rest(n int) []int { return r.samples[n : n+r.delay : n+r.delay] }

// Block is n output samples of a pipeline (chapter 34). It begins with a snap, of which Ins and Sides grow by the inputs.
type Block struct {
	api.Snap
	session api.Session
	pool    api.Pool
	plan    api.Plan
	graph   api.Graph
	n       int
	into    [][]int
	from    [][]int
	routes  []*route
	done    []int
	runners []*Runner
	values  *Values
}

// NewBlock returns n output samples of a session with a graph, from a snap on, none of which has been performed. The lists of the snap are replaced, not changed.
func NewBlock(s api.Session, g api.Graph, p api.Pool, plan api.Plan, x api.Snap, n int) *Block {
	many := len(s.Nodes)
	b := &Block{Snap: x, session: s, pool: p, plan: plan, graph: g, n: n, values: NewValues(s)}
	b.into, b.from, b.done, b.runners = make([][]int, many), make([][]int, many), make([]int, many), make([]*Runner, many)
	for i, e := range g.Edges {
		b.into[e.To] = append(b.into[e.To], i)
		b.from[e.From] = append(b.from[e.From], i)
		held := x.Lines[i]
		b.routes = append(b.routes, &route{held[:len(held):len(held)], plan.Delay[i]})
	}
	for v, node := range s.Nodes {
		b.Ins[v], b.Sides[v] = clipped(x.Ins[v]), clipped(x.Sides[v])
		if node.Kind == api.ProcN && n > 0 {
			b.runners[v] = NewRunner(s.Procs[node.Proc])
			b.runners[v].State = x.States[v]
		}
	}
	return b
}

// clipped returns a list that is copied when it grows.
func clipped(l []int) []int { return l[:len(l):len(l)] }

// Do performs all output samples of some nodes, as far as what routes from other nodes bring is there. It returns what they put out, by node.
func (b *Block) Do(nodes []int) map[int][]int {
	out := make(map[int][]int, len(nodes))
	for more := true; more; {
		more = false
		for _, v := range nodes {
			if to := b.ready(v); to > b.done[v] {
				l := b.perform(v, b.done[v], to)
				out[v] = append(out[v], l...)
				for _, i := range b.from[v] {
					b.routes[i].enter(l)
				}
				b.done[v], more = to, true
			}
		}
	}
	return out
}

// ready returns up to which output sample a node can be performed.
func (b *Block) ready(v int) int {
	to := b.n
	for _, i := range b.into[v] {
		to = min(to, len(b.routes[i].samples))
	}
	return to
}

// perform returns what a node puts out at the output samples from from up to to of the block.
func (b *Block) perform(v, from, to int) []int {
	n := to - from
	t := b.At + from - b.plan.At[v]
	early := whole.Hold(-t, 0, n)
	out := make([]int, early, n)
	switch b.session.Nodes[v].Kind {
	case api.TrackN:
		l, _ := places.Samples(b.pool, b.session.Tempo, b.session.Nodes[v].Places, max(t, 0), n-early)
		return append(out, l...)
	case api.ProcN:
		b.Ins[v] = append(b.Ins[v], b.input(v, api.MainP, from, to)...)
		b.Sides[v] = append(b.Sides[v], b.input(v, api.SideP, from, to)...)
		return b.steps(v, from, to)
	}
	return b.input(v, api.MainP, from, to)
}

// input returns the inputs of a node; before the sample 0 they are 0.
func (b *Block) input(v, port, from, to int) []int {
	t := b.At + from - b.plan.At[v]
	early := whole.Hold(-t, 0, to-from)
	n := to - from - early
	var feeds []Feed
	for _, i := range b.into[v] {
		r := b.session.Routes[i]
		if r.Port != port {
			continue
		}
		f := Feed{Samples: b.routes[i].samples[from+early : to]}
		if r.Gain != 0 && n > 0 {
			f.Gains = b.values.Gains(r.Gain, t+early, n)
		}
		feeds = append(feeds, f)
	}
	return append(make([]int, early), Mix(n, feeds)...)
}

// steps performs the steps of a processor; before its first one it puts out 0.
func (b *Block) steps(v, from, to int) []int {
	latency := b.graph.Latency[v]
	at := b.At + from - b.plan.At[v] - latency
	early := whole.Hold(-at, 0, to-from)
	n := to - from - early
	out := make([]int, early)
	if n == 0 {
		return out
	}
	controls := b.values.Controls(b.session.Nodes[v].Id, at+early, n)
	first, last := from+early, to+latency
	return append(out, b.runners[v].Run(controls, b.Ins[v][first:last], b.Sides[v][first:last])...)
}

// After returns the snap after the block, if all nodes have performed it.
func (b *Block) After() api.Snap {
	x := api.Snap{At: b.At + b.n}
	for v, s := range b.States {
		latency := b.graph.Latency[v]
		if r := b.runners[v]; r != nil {
			s = r.State
		}
		x.States = append(x.States, s)
		x.Ins = append(x.Ins, last(b.Ins[v], latency))
		x.Sides = append(x.Sides, last(b.Sides[v], latency))
	}
	for _, r := range b.routes {
		x.Lines = append(x.Lines, r.rest(b.n))
	}
	return x
}

func last(l []int, n int) []int { return clipped(l[len(l)-n:]) }
