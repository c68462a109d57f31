package flows

// network is the tree of the network simplex method: each node has a tree arc to its parent, and a potential such that tree arcs have no reduced cost. Behind the arcs of the problem lies one further arc for each node, between it and the root, which is so expensive that nothing flows on it in the end.
type network struct {
	root                       int
	arcs                       []Arc
	flow                       []int
	parent, by, depth          []int
	potential                  []int
	child, sibling, before     []int
	start, block               int
	waiting                    []int
	most, leaving, leavingNode int
	reversed                   bool
}

const none = -1

func newNetwork(n int, arcs []Arc) *network {
	t := &network{root: n, arcs: arcs[:len(arcs):len(arcs)], flow: make([]int, len(arcs)+n)}
	for _, l := range []*[]int{&t.parent, &t.by, &t.depth, &t.potential, &t.child, &t.sibling, &t.before} {
		*l = make([]int, n+1)
	}
	surplus, cost := make([]int, n), 1
	for _, x := range arcs {
		surplus[x.From] += x.Weight
		surplus[x.To] -= x.Weight
		cost += max(x.Slack, -x.Slack)
	}
	for v := range n + 1 {
		t.child[v], t.sibling[v], t.before[v] = none, none, none
	}
	t.parent[n] = none
	for v := range n {
		// An arc without a flow leads to the root, so that no cycle of steps without effect can arise.
		x := Arc{From: v, To: n, Slack: cost}
		t.potential[v] = -cost
		if surplus[v] < 0 {
			x.From, x.To = n, v
			t.potential[v] = cost
		}
		t.flow[len(arcs)+v] = max(surplus[v], -surplus[v])
		t.arcs = append(t.arcs, x)
		t.hang(v, n, len(arcs)+v)
		t.depth[v] = 1
	}
	t.block = 1
	for t.block*t.block < len(t.arcs) {
		t.block++
	}
	return t
}

// hang makes v a child of p, by an arc.
func (t *network) hang(v, p, by int) {
	t.parent[v], t.by[v] = p, by
	first := t.child[p]
	t.before[v], t.sibling[v] = none, first
	if first != none {
		t.before[first] = v
	}
	t.child[p] = v
}

// cut takes v away from its parent.
func (t *network) cut(v int) {
	if b := t.before[v]; b != none {
		t.sibling[b] = t.sibling[v]
	} else {
		t.child[t.parent[v]] = t.sibling[v]
	}
	if s := t.sibling[v]; s != none {
		t.before[s] = t.before[v]
	}
}

// reduced returns what a unit of flow on an arc costs beyond the tree.
func (t *network) reduced(i int) int {
	x := t.arcs[i]
	return x.Slack + t.potential[x.From] - t.potential[x.To]
}

// entering returns an arc on which flow saves costs, the best one of a block.
func (t *network) entering() int {
	best, cost := none, 0
	for seen := 1; seen <= len(t.arcs); seen++ {
		if c := t.reduced(t.start); c < cost {
			best, cost = t.start, c
		}
		t.start = (t.start + 1) % len(t.arcs)
		if seen%t.block == 0 && best != none {
			break
		}
	}
	return best
}

// solve improves the flow along cycles until none saves anything, and returns it.
func (t *network) solve() []int {
	for i := t.entering(); i != none; i = t.entering() {
		t.improve(i)
	}
	return t.flow
}

// improve sends as much flow as possible around the cycle that an arc closes, and exchanges the arc for one that hinders it.
func (t *network) improve(entering int) {
	x := t.arcs[entering]
	apex := t.apex(x.From, x.To)
	t.most, t.leaving = -1, none
	// Of several arcs that hinder, the last one of the cycle, from the apex on, must leave.
	for v := x.From; v != apex; v = t.parent[v] {
		if t.arcs[t.by[v]].From == v {
			t.hinder(v, false, false)
		}
	}
	for v := x.To; v != apex; v = t.parent[v] {
		if t.arcs[t.by[v]].To == v {
			t.hinder(v, true, true)
		}
	}
	t.send(entering, apex)
	if t.reversed {
		t.exchange(x.To, x.From, entering)
	} else {
		t.exchange(x.From, x.To, entering)
	}
}

// hinder notes that the arc above v cannot lose more than its flow.
func (t *network) hinder(v int, equal, reversed bool) {
	f := t.flow[t.by[v]]
	if t.leaving == none || f < t.most || equal && f == t.most {
		t.most, t.leaving, t.leavingNode, t.reversed = f, t.by[v], v, reversed
	}
}

func (t *network) apex(a, b int) int {
	for a != b {
		if t.depth[a] >= t.depth[b] {
			a = t.parent[a]
		} else {
			b = t.parent[b]
		}
	}
	return a
}

func (t *network) send(entering, apex int) {
	if t.most == 0 {
		return
	}
	x := t.arcs[entering]
	t.flow[entering] += t.most
	for v := x.From; v != apex; v = t.parent[v] {
		t.change(v, t.arcs[t.by[v]].To == v)
	}
	for v := x.To; v != apex; v = t.parent[v] {
		t.change(v, t.arcs[t.by[v]].From == v)
	}
}

func (t *network) change(v int, more bool) {
	if more {
		t.flow[t.by[v]] += t.most
	} else {
		t.flow[t.by[v]] -= t.most
	}
}

// exchange hangs the part below the leaving arc, which contains inside, on outside.
func (t *network) exchange(inside, outside, entering int) {
	v, p, by := inside, outside, entering
	for {
		up, upBy, last := t.parent[v], t.by[v], v == t.leavingNode
		t.cut(v)
		t.hang(v, p, by)
		if last {
			break
		}
		v, p, by = up, v, upBy
	}
	t.waiting = append(t.waiting[:0], inside)
	for len(t.waiting) > 0 {
		v := t.waiting[len(t.waiting)-1]
		t.waiting = t.waiting[:len(t.waiting)-1]
		p, x := t.parent[v], t.arcs[t.by[v]]
		t.depth[v] = t.depth[p] + 1
		if x.From == v {
			t.potential[v] = t.potential[p] - x.Slack
		} else {
			t.potential[v] = t.potential[p] + x.Slack
		}
		for c := t.child[v]; c != none; c = t.sibling[c] {
			t.waiting = append(t.waiting, c)
		}
	}
}
