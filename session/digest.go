package session

import (
	"soundpost/api"
	"soundpost/codec"
	"soundpost/digest"
)

func list(l ...api.Value) api.Value { return api.Value{Kind: api.ListV, L: l} }

func text(s string) api.Value { return api.Value{Kind: api.TextV, S: s} }

// ints returns the list of numbers, followed by some values.
func ints(l []int, more ...api.Value) api.Value {
	v := make([]api.Value, len(l), len(l)+len(more))
	for i, n := range l {
		v[i] = api.Value{Kind: api.IntV, N: n}
	}
	return list(append(v, more...)...)
}

// named returns the list of a text and numbers.
func named(s string, l ...int) api.Value { return list(append([]api.Value{text(s)}, ints(l).L...)...) }

// each returns the list of what a function makes of all elements.
func each[T any](l []T, value func(T) api.Value) api.Value {
	v := list()
	for _, x := range l {
		v.L = append(v.L, value(x))
	}
	return v
}

// Digest returns the digest of a session.
func Digest(s api.Session) (d api.Digest, e api.Errno) {
	if e := Check(s); e != api.OK {
		return api.Digest{}, e
	}
	b, _ := codec.Encode(list(each(s.Tempo, point), each(s.Procs, proc), each(s.Params, param), each(s.Links, link), each(s.Nodes, node), each(s.Routes, route)))
	return digest.Tagged("session", b), api.OK
}

func point(t api.Tempo) api.Value {
	ramp := 0
	if t.Ramp {
		ramp = 1
	}
	return ints([]int{t.Tick, t.N, t.D, ramp})
}

func proc(p api.Proc) api.Value {
	bound := func(b api.Bound) api.Value { return named(b.Name, b.Lo, b.Hi) }
	line := func(l api.Line) api.Value { return named(l.Name, l.Size, l.Lo, l.Hi) }
	table := func(t api.Table) api.Value { return list(text(t.Name), ints(t.Values)) }
	v := named(p.Name, p.Latency, p.Tail)
	return list(append(v.L, each(p.Params, bound), each(p.States, bound), each(p.Lines, line), each(p.Tables, table), each(p.Stmts, stmt))...)
}

// mixed returns the list of Kind, Name and further numbers.
func mixed(kind int, name string, l ...int) api.Value {
	return list(append([]api.Value{ints([]int{kind}).L[0]}, named(name, l...).L...)...)
}

func stmt(s api.Stmt) api.Value {
	nodes := list()
	var walk func(x api.Expr)
	walk = func(x api.Expr) {
		nodes.L = append(nodes.L, mixed(x.Kind, x.Name, x.Index, x.N, len(x.L)))
		for _, y := range x.L {
			walk(y)
		}
	}
	walk(s.X)
	v := mixed(s.Kind, s.Name, s.Index)
	return list(append(v.L, nodes)...)
}

func knot(k api.Knot) api.Value { return ints([]int{k.At, k.Value, k.Shape, k.A, k.B}) }

func param(p api.Param) api.Value {
	gesture := func(g api.Gesture) api.Value {
		return ints([]int{g.Mode, g.From, g.To, g.Until}, each(g.Knots, knot))
	}
	return ints([]int{p.Id, p.Value}, each(p.Knots, knot), each(p.Gestures, gesture))
}

func link(l api.Link) api.Value { return ints([]int{l.From, l.To, l.Num, l.Den, l.Add}) }

func node(n api.Node) api.Value {
	return ints([]int{n.Id, n.Kind, n.Proc}, ints(n.Params), each(n.Places, place))
}

func place(p api.Place) api.Value {
	nodes := list()
	var walk func(c api.Clip)
	walk = func(c api.Clip) {
		v := ints([]int{c.Kind}, text(string(c.Take[:])))
		v.L = append(v.L, ints([]int{c.From, c.Len, c.A, c.B}, ints(c.At)).L...)
		v.L = append(v.L, ints([]int{len(c.L)}).L...)
		nodes.L = append(nodes.L, v)
		for _, x := range c.L {
			walk(x)
		}
	}
	walk(p.Clip)
	return ints([]int{p.Id, p.Tick, p.Off}, nodes)
}

func route(r api.Route) api.Value { return ints([]int{r.From, r.To, r.Port, r.Gain, r.Delay}) }
