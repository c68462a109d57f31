package render

import (
	"slices"

	"soundpost/api"
	"soundpost/engine"
	"soundpost/order"
	"soundpost/places"
	"soundpost/session"
)

// signal is the output of a node: data is known from the sample from on, and needed up to to; it spreads, if what it depends on has not been demanded. Of a processor the inputs are kept, too.
type signal struct {
	from, to       int
	spreads        bool
	data, in, side []int
	runner         *engine.Runner
}

func (g *signal) end() int { return g.from + len(g.data) }

// samples returns n samples that are known; before the sample 0 all of them are 0.
func (g *signal) samples(from, n int) []int {
	x := make([]int, n)
	if first := max(from, 0); first < from+n {
		copy(x[first-from:], g.data[first-g.from:])
	}
	return x
}

// desk is a session that is rendered.
type desk struct {
	session api.Session
	pool    api.Pool
	graph   api.Graph
	parts   [][]int
	looped  []bool
	routes  [][]int
	signals []*signal
	values  *engine.Values
	gains   map[int]func(from, n int) []int
	kinds   [api.OutN + 1]kind
}

func newDesk(s api.Session, p api.Pool) *desk {
	g, _ := session.Graph(s)
	parts, _ := order.Parts(g)
	d := &desk{session: s, pool: p, graph: g, parts: parts, values: engine.NewValues(s), gains: map[int]func(from, n int) []int{}, kinds: kinds()}
	d.looped, d.routes, d.signals = make([]bool, len(s.Nodes)), make([][]int, len(s.Nodes)), make([]*signal, len(s.Nodes))
	for i, e := range g.Edges {
		d.routes[e.To] = append(d.routes[e.To], i)
		d.looped[e.To] = d.looped[e.To] || e.From == e.To
	}
	for _, l := range parts {
		for _, v := range l {
			d.looped[v] = d.looped[v] || len(l) > 1
		}
	}
	return d
}

// memory returns for how many samples a node remembers its inputs, and false if it remembers forever.
func (d *desk) memory(v int) (n int, ends bool) {
	if d.looped[v] {
		return 0, false
	}
	if x := d.session.Nodes[v]; x.Kind == api.ProcN {
		tail := d.session.Procs[x.Proc].Tail
		return tail, tail >= 0
	}
	return 0, true
}

// need demands the samples of a node from from up to to.
func (d *desk) need(v, from, to int) {
	from, to = max(from, 0), max(to, 0)
	if from >= to {
		return
	}
	if n, ends := d.memory(v); ends {
		from = max(0, from-n)
	} else {
		from = 0
	}
	g := d.signals[v]
	if g == nil {
		g = &signal{from: from, to: to, spreads: true}
		d.signals[v] = g
	}
	if from < g.from || g.to < to {
		g.from, g.to, g.spreads = min(from, g.from), max(to, g.to), true
	}
}

// needInputs demands what the inputs of a node from from up to to depend on.
func (d *desk) needInputs(v, from, to int) {
	for _, i := range d.routes[v] {
		e := d.graph.Edges[i]
		d.need(e.From, from-e.Delay, to-e.Delay)
	}
}

// spread demands what the nodes depend on whose samples are needed. On a cycle, less is needed each time, so that it ends.
func (d *desk) spread() {
	for _, l := range slices.Backward(d.parts) {
		for more := true; more; {
			more = false
			for _, v := range l {
				if g := d.signals[v]; g != nil && g.spreads {
					g.spreads, more = false, true
					d.needInputs(v, g.from, g.to+d.graph.Latency[v])
				}
			}
		}
	}
}

// extend extends the signals that are needed, one after the other, until nothing can be extended any more.
func (d *desk) extend() {
	d.spread()
	for _, l := range d.parts {
		for more := true; more; {
			more = false
			for _, v := range l {
				if g := d.signals[v]; g != nil && g.end() < g.to && d.kinds[d.session.Nodes[v].Kind].extend(d, v, g) {
					more = true
				}
			}
		}
	}
}

// known returns up to which sample an input is known, at most to.
func (d *desk) known(v, port, to int) int {
	for _, i := range d.routes[v] {
		e := d.graph.Edges[i]
		if d.session.Routes[i].Port != port {
			continue
		}
		end := e.Delay
		if g := d.signals[e.From]; g != nil {
			end += g.end()
		}
		to = min(to, end)
	}
	return to
}

// gain returns a function that returns values of a parameter, and extends what is kept of them.
func (d *desk) gain(id int) func(from, n int) []int {
	values, ok := d.gains[id]
	if !ok {
		values = func(from, n int) []int { return d.values.Gains(id, from, n) }
		d.gains[id] = values
	}
	return values
}

// mix returns n samples of an input that are known.
func (d *desk) mix(v, port, from, n int) []int {
	var feeds []engine.Feed
	for _, i := range d.routes[v] {
		r, g := d.session.Routes[i], d.signals[d.graph.Edges[i].From]
		if r.Port != port || g == nil {
			continue
		}
		f := engine.Feed{Samples: g.samples(from-r.Delay, n)}
		if r.Gain != 0 {
			f.Gains = d.gain(r.Gain)(from, n)
		}
		feeds = append(feeds, f)
	}
	return engine.Mix(n, feeds)
}

// kind says how the signal of a node of a kind is extended.
type kind struct {
	extend func(d *desk, v int, g *signal) bool
}

func kinds() [api.OutN + 1]kind {
	return [api.OutN + 1]kind{
		api.TrackN: {extendTrack},
		api.ProcN:  {extendProc},
		api.BusN:   {extendBus},
		api.OutN:   {extendBus},
	}
}

func extendTrack(d *desk, v int, g *signal) bool {
	for g.end() < g.to {
		from, l := g.end(), d.session.Nodes[v].Places
		n := min(g.to-from, api.MaxBlock)
		if behind := from - api.MaxPos; behind > 0 {
			from, l = api.MaxPos, earlier(d.session.Tempo, l, behind)
		}
		x, _ := places.Samples(d.pool, d.session.Tempo, l, from, n)
		g.data = append(g.data, x...)
	}
	return true
}

// earlier moves places by some samples, so that what is behind the last position can be read there. What cannot be moved as far ends before it.
func earlier(m []api.Tempo, l []api.Place, by int) (x []api.Place) {
	for _, p := range l {
		from, _, _ := places.Extent(m, p)
		if from >= by && p.Off-by >= -api.MaxTake {
			p.Off -= by
			x = append(x, p)
		}
	}
	return x
}

func extendBus(d *desk, v int, g *signal) bool {
	n := d.known(v, api.MainP, g.to) - g.end()
	if n <= 0 {
		return false
	}
	g.data = append(g.data, d.mix(v, api.MainP, g.end(), n)...)
	return true
}

func extendProc(d *desk, v int, g *signal) bool {
	latency := d.graph.Latency[v]
	g.in = d.input(v, api.MainP, g, g.in)
	g.side = d.input(v, api.SideP, g, g.side)
	done := len(g.data)
	n := min(len(g.in), len(g.side)) - latency - done
	if n <= 0 {
		return false
	}
	if g.runner == nil {
		g.runner = engine.NewRunner(d.session.Procs[d.session.Nodes[v].Proc])
	}
	controls := d.values.Controls(d.session.Nodes[v].Id, g.end(), n)
	g.data = append(g.data, g.runner.Run(controls, g.in[done:], g.side[done:])...)
	return true
}

// input extends an input of a processor, which is known from the beginning of its signal on.
func (d *desk) input(v, port int, g *signal, l []int) []int {
	from := g.from + len(l)
	if n := d.known(v, port, g.to+d.graph.Latency[v]) - from; n > 0 {
		l = append(l, d.mix(v, port, from, n)...)
	}
	return l
}
