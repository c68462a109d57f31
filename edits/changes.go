package edits

import (
	"slices"

	"soundpost/api"
	"soundpost/names"
	"soundpost/syntax"
	"soundpost/tempo"
)

// clash is the panic at a precondition that does not hold.
type clash struct{}

func must(ok bool) {
	if !ok {
		panic(clash{})
	}
}

// change applies operations of a kind to a session, which remains as it is.
type change struct {
	apply func(s api.Session, o api.Op) api.Session
}

func changes() map[int]change {
	return map[int]change{
		api.ProcO: {addProcs}, api.NodeO: {addNode}, api.DropO: {dropNode}, api.RouteO: {addRoute}, api.CutO: {cutRoute},
		api.ParamO: {addParam}, api.KnotO: {setKnot}, api.UnknotO: {cutKnot}, api.BindO: {bind},
		api.PlaceO: {addPlace}, api.UnplaceO: {cutPlace}, api.TempoO: {setTempo},
	}
}

// find returns where an element with a key is, or where the order requires it.
func find[T any](l []T, key []int, keyOf func(T) []int) (at int, found bool) {
	return slices.BinarySearchFunc(l, key, func(x T, k []int) int { return slices.Compare(keyOf(x), k) })
}

// added returns a list with a further element, which must not be there yet.
func added[T any](l []T, x T, keyOf func(T) []int) []T {
	at, found := find(l, keyOf(x), keyOf)
	must(!found)
	return slices.Insert(slices.Clone(l), at, x)
}

// index returns where an element is, which must be there.
func index[T any](l []T, key []int, keyOf func(T) []int) int {
	at, found := find(l, key, keyOf)
	must(found)
	return at
}

func without[T any](l []T, at int) []T { return slices.Delete(slices.Clone(l), at, at+1) }

func nodeKey(n api.Node) []int { return []int{n.Id} }

func paramKey(p api.Param) []int { return []int{p.Id} }

func placeKey(p api.Place) []int { return []int{p.Id} }

func knotKey(k api.Knot) []int { return []int{k.At} }

func routeKey(r api.Route) []int { return []int{r.From, r.To, r.Port} }

func addProcs(s api.Session, o api.Op) api.Session {
	l, _, e := syntax.Parse(o.Source)
	must(e == api.OK && len(l) > 0)
	s.Procs = slices.Clone(s.Procs)
	for _, p := range l {
		x, e := names.Resolve(p)
		must(e == api.OK)
		s.Procs = append(s.Procs, x)
	}
	return s
}

func addNode(s api.Session, o api.Op) api.Session {
	n := api.Node{Id: Id(o), Kind: o.A, Proc: o.B}
	if n.Kind == api.ProcN {
		must(n.Proc < len(s.Procs))
		n.Params = make([]int, len(s.Procs[n.Proc].Params))
	}
	s.Nodes = added(s.Nodes, n, nodeKey)
	return s
}

func dropNode(s api.Session, o api.Op) api.Session {
	s.Nodes = without(s.Nodes, index(s.Nodes, []int{o.A}, nodeKey))
	s.Routes = slices.DeleteFunc(slices.Clone(s.Routes), func(r api.Route) bool { return r.From == o.A || r.To == o.A })
	return s
}

func addRoute(s api.Session, o api.Op) api.Session {
	s.Routes = added(s.Routes, api.Route{From: o.A, To: o.B, Port: o.C, Delay: o.D}, routeKey)
	return s
}

func cutRoute(s api.Session, o api.Op) api.Session {
	s.Routes = without(s.Routes, index(s.Routes, []int{o.A, o.B, o.C}, routeKey))
	return s
}

func addParam(s api.Session, o api.Op) api.Session {
	s.Params = added(s.Params, api.Param{Id: Id(o), Value: o.A}, paramKey)
	return s
}

// param returns a session whose parameters can be changed, and one of them.
func param(s api.Session, id int) (api.Session, *api.Param) {
	at := index(s.Params, []int{id}, paramKey)
	s.Params = slices.Clone(s.Params)
	return s, &s.Params[at]
}

func setKnot(s api.Session, o api.Op) api.Session {
	s, p := param(s, o.A)
	at, found := find(p.Knots, knotKey(o.Knot), knotKey)
	if found {
		p.Knots = without(p.Knots, at)
	}
	p.Knots = slices.Insert(slices.Clone(p.Knots), at, o.Knot)
	return s
}

func cutKnot(s api.Session, o api.Op) api.Session {
	s, p := param(s, o.A)
	p.Knots = without(p.Knots, index(p.Knots, []int{o.B}, knotKey))
	return s
}

// node returns a session whose nodes can be changed, and one of them, which must be of a kind.
func node(s api.Session, id, kind int) (api.Session, *api.Node) {
	at := index(s.Nodes, []int{id}, nodeKey)
	must(s.Nodes[at].Kind == kind)
	s.Nodes = slices.Clone(s.Nodes)
	return s, &s.Nodes[at]
}

func bind(s api.Session, o api.Op) api.Session {
	if o.A == 0 {
		at := index(s.Routes, []int{o.C, o.D, api.MainP}, routeKey)
		s.Routes = slices.Clone(s.Routes)
		s.Routes[at].Gain = o.B
		return s
	}
	s, n := node(s, o.A, api.ProcN)
	must(o.C < len(n.Params))
	n.Params = slices.Clone(n.Params)
	n.Params[o.C] = o.B
	return s
}

func addPlace(s api.Session, o api.Op) api.Session {
	s, n := node(s, o.A, api.TrackN)
	n.Places = added(n.Places, api.Place{Id: Id(o), Tick: o.B, Off: o.C, Clip: o.Clip}, placeKey)
	return s
}

func cutPlace(s api.Session, o api.Op) api.Session {
	s, n := node(s, o.A, api.TrackN)
	n.Places = without(n.Places, index(n.Places, []int{o.B}, placeKey))
	return s
}

func setTempo(s api.Session, o api.Op) api.Session {
	m, e := tempo.Insert(s.Tempo, api.Tempo{Tick: o.A, N: o.B, D: o.C, Ramp: o.D == 1})
	must(e == api.OK)
	s.Tempo = m
	return s
}
