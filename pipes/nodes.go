package pipes

import (
	"soundpost/api"
	"soundpost/engine"
	"soundpost/fixed"
	"soundpost/order"
	"soundpost/places"
)

// ring is a route: what it holds, and the sample that leaves it next. What would leave it after the run is not kept.
type ring struct {
	held    []int
	at      int
	lost    bool
	leaving int
}

func newRing(delay, n int) *ring {
	if delay >= n {
		return &ring{lost: true}
	}
	return &ring{held: make([]int, delay)}
}

// pass puts in a sample, and takes out the one that leaves at the next output sample.
func (r *ring) pass(v int) int {
	if r.lost {
		return 0
	}
	r.held[r.at] = v
	r.at = (r.at + 1) % len(r.held)
	return r.held[r.at]
}

// node performs output samples, one after the other: its input sample t, which may be less than 0.
type node interface {
	perform(t int) int
}

// feed is a route to a node.
type feed struct {
	*ring
	from, gain int
}

// mixer mixes what routes bring to a port; samples are what the nodes put out.
type mixer struct {
	feeds   []feed
	values  *engine.Values
	samples []int
}

func (m *mixer) mix(t int) int {
	if t < 0 {
		return 0
	}
	l := make([]int, 0, len(m.feeds))
	for _, f := range m.feeds {
		v := f.leaving
		if !f.lost && len(f.held) == 0 {
			v = m.samples[f.from]
		}
		gain := api.Unity
		if f.gain != 0 {
			gain = m.values.Gains(f.gain, t, 1)[0]
		}
		l = append(l, fixed.Mul(v, gain))
	}
	return fixed.Mix(l)
}

type bus struct{ main *mixer }

func (b *bus) perform(t int) int { return b.main.mix(t) }

type track struct{ data []int }

func (k *track) perform(t int) int {
	if t < 0 {
		return 0
	}
	return k.data[t]
}

// processor keeps its inputs: those from the sample -latency on.
type processor struct {
	id, latency int
	main, other *mixer
	in, side    []int
	runner      *engine.Runner
	values      *engine.Values
}

func (p *processor) perform(t int) int {
	if t < 0 {
		return 0
	}
	p.in, p.side = append(p.in, p.main.mix(t)), append(p.side, p.other.mix(t))
	at := t - p.latency
	if at < 0 {
		return 0
	}
	return p.runner.Run(p.values.Controls(p.id, at, 1), p.in[at:], p.side[at:])[0]
}

// pipeline returns a function that performs the next output sample, and returns what each node puts out.
func pipeline(s api.Session, p api.Pool, g api.Graph, plan api.Plan, n int) func() []int {
	samples, values := make([]int, len(s.Nodes)), engine.NewValues(s)
	var rings []*ring
	for i := range s.Routes {
		rings = append(rings, newRing(plan.Delay[i], n+1))
	}
	mixers := func(v, port int) *mixer {
		m := &mixer{values: values, samples: samples}
		for i, r := range s.Routes {
			if g.Edges[i].To == v && r.Port == port {
				m.feeds = append(m.feeds, feed{rings[i], g.Edges[i].From, r.Gain})
			}
		}
		return m
	}
	nodes := make([]node, len(s.Nodes))
	for v, x := range s.Nodes {
		switch x.Kind {
		case api.TrackN:
			data, _ := places.Samples(p, s.Tempo, x.Places, 0, n)
			nodes[v] = &track{data}
		case api.ProcN:
			nodes[v] = &processor{id: x.Id, latency: g.Latency[v], main: mixers(v, api.MainP), other: mixers(v, api.SideP), runner: engine.NewRunner(s.Procs[x.Proc]), values: values}
		default:
			nodes[v] = &bus{mixers(v, api.MainP)}
		}
	}
	sequence, _ := order.Sequence(g, plan.Delay)
	at := 0
	return func() []int {
		for _, v := range sequence {
			samples[v] = nodes[v].perform(at - plan.At[v])
		}
		for i, r := range rings {
			if r.lost || len(r.held) > 0 {
				r.leaving = r.pass(samples[g.Edges[i].From])
			}
		}
		at++
		return samples
	}
}
