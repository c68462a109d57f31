package effects

import (
	"slices"

	"soundpost/api"
	"soundpost/equal"
	"soundpost/places"
	"soundpost/syntax"
)

// side is a session, with what is found in it by Ids.
type side struct {
	api.Session
	params map[int]api.Param
	links  map[int]api.Link
	nodes  map[int]api.Node
	routes map[int][]api.Route
}

func newSide(s api.Session) side {
	x := side{s, map[int]api.Param{}, map[int]api.Link{}, map[int]api.Node{}, map[int][]api.Route{}}
	for _, p := range s.Params {
		x.params[p.Id] = p
	}
	for _, l := range s.Links {
		x.links[l.To] = l
	}
	for _, n := range s.Nodes {
		x.nodes[n.Id] = n
	}
	for _, r := range s.Routes {
		x.routes[r.To] = append(x.routes[r.To], r)
	}
	return x
}

// differing returns a function that reports whether a parameter differs.
func differing(a, b side) func(id int) bool {
	known := map[int]bool{}
	sameTempo := slices.Equal(a.Tempo, b.Tempo)
	var differs func(id int) bool
	determine := func(id int) bool {
		p, ok1 := a.params[id]
		q, ok2 := b.params[id]
		if ok1 != ok2 {
			return true
		}
		l, linked1 := a.links[id]
		m, linked2 := b.links[id]
		if linked1 || linked2 {
			return linked1 != linked2 || l != m || differs(l.From)
		}
		return p.Value != q.Value || !slices.Equal(p.Knots, q.Knots) || !slices.EqualFunc(p.Gestures, q.Gestures, equal.Gesture) || len(p.Knots) > 0 && !sameTempo
	}
	differs = func(id int) bool {
		if id == 0 {
			return false
		}
		if _, ok := known[id]; !ok {
			known[id] = determine(id)
		}
		return known[id]
	}
	return differs
}

// own returns the own ranges of the nodes of b.
func own(a, b api.Session) []span {
	x, y := newSide(a), newSide(b)
	differs := differing(x, y)
	l := make([]span, len(b.Nodes))
	for i, n := range b.Nodes {
		old, ok := x.nodes[n.Id]
		switch {
		case !ok || old.Kind != n.Kind || n.Kind == api.ProcN && otherProc(x, y, old, n, differs) || otherRoutes(x, y, n.Id, differs):
			l[i] = everything
		case n.Kind == api.TrackN:
			l[i] = otherPlaces(x, y, old, n)
		}
	}
	return l
}

func otherProc(a, b side, old, n api.Node, differs func(int) bool) bool {
	return !syntax.Same(a.Procs[old.Proc], b.Procs[n.Proc]) || !slices.Equal(old.Params, n.Params) || slices.ContainsFunc(n.Params, differs)
}

// otherRoutes reports whether the routes to a node differ. As they lead to the same node, they are compared whole.
func otherRoutes(a, b side, id int, differs func(int) bool) bool {
	gain := func(r api.Route) bool { return differs(r.Gain) }
	return !slices.Equal(a.routes[id], b.routes[id]) || slices.ContainsFunc(b.routes[id], gain)
}

// otherPlaces returns the hull of what the places of a track cover that differ.
func otherPlaces(a, b side, old, n api.Node) span {
	before := map[int]api.Place{}
	for _, p := range old.Places {
		before[p.Id] = p
	}
	cover := func(s side, p api.Place) span {
		from, to, _ := places.Extent(s.Tempo, p)
		return span{from, to}
	}
	var x span
	add := func(s span) { x = x.hull(s) }
	for _, p := range n.Places {
		now := cover(b, p)
		q, ok := before[p.Id]
		if !ok {
			add(now)
			continue
		}
		delete(before, p.Id)
		was := cover(a, q)
		if was.from != now.from || !equal.Clip(p.Clip, q.Clip) {
			add(was)
			add(now)
		}
	}
	for _, p := range before {
		add(cover(a, p))
	}
	return below(x.from, x.to)
}
