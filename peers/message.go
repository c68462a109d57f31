package peers

import (
	"soundpost/api"
	"soundpost/codec"
	"soundpost/edits"
)

func ints(l ...int) api.Value {
	v := api.Value{Kind: api.ListV, L: make([]api.Value, len(l))}
	for i, n := range l {
		v.L[i] = api.Value{Kind: api.IntV, N: n}
	}
	return v
}

func text(s string) api.Value { return api.Value{Kind: api.TextV, S: s} }

// encode returns the message of an operation.
func encode(o api.Op) []byte {
	v := ints(o.Peer, o.No, o.Time, o.Kind, o.A, o.B, o.C, o.D, o.Of[0], o.Of[1])
	nodes := api.Value{Kind: api.ListV}
	var walk func(c api.Clip)
	walk = func(c api.Clip) {
		n := ints(c.Kind)
		n.L = append(n.L, text(string(c.Take[:])))
		n.L = append(n.L, ints(c.From, c.Len, c.A, c.B).L...)
		n.L = append(n.L, ints(c.At...))
		n.L = append(n.L, ints(len(c.L)).L...)
		nodes.L = append(nodes.L, n)
		for _, x := range c.L {
			walk(x)
		}
	}
	walk(o.Clip)
	v.L = append(v.L, ints(o.Knot.At, o.Knot.Value, o.Knot.Shape, o.Knot.A, o.Knot.B), nodes, text(o.Source))
	b, _ := codec.Encode(v)
	return b
}

// lists reports whether a value is a list of so many integers (-1: any number).
func lists(v api.Value, many int) bool {
	for _, x := range v.L {
		if x.Kind != api.IntV {
			return false
		}
	}
	return v.Kind == api.ListV && (many < 0 || len(v.L) == many)
}

// decode returns the operation of a message, and false if the data is none. As values have one encoding each, it is a message if the value has the form of one.
func decode(b []byte) (o api.Op, ok bool) {
	v, e := codec.Decode(b)
	if e != api.OK || v.Kind != api.ListV || len(v.L) != 13 {
		return api.Op{}, false
	}
	l, knot, nodes, source := v.L[:10], v.L[10], v.L[11], v.L[12]
	if !lists(api.Value{Kind: api.ListV, L: l}, 10) || !lists(knot, 5) || nodes.Kind != api.ListV || source.Kind != api.TextV {
		return api.Op{}, false
	}
	o = api.Op{Peer: l[0].N, No: l[1].N, Time: l[2].N, Kind: l[3].N, A: l[4].N, B: l[5].N, C: l[6].N, D: l[7].N, Of: [2]int{l[8].N, l[9].N}, Source: source.S}
	k := knot.L
	o.Knot = api.Knot{At: k[0].N, Value: k[1].N, Shape: k[2].N, A: k[3].N, B: k[4].N}
	c, rest, ok := clip(nodes.L)
	o.Clip = c
	if !ok || len(rest) > 0 || edits.Check(o) != api.OK {
		return api.Op{}, false
	}
	return o, true
}

// clip reads the nodes of a clip in preorder, and returns those that are left.
func clip(nodes []api.Value) (c api.Clip, rest []api.Value, ok bool) {
	if len(nodes) == 0 || nodes[0].Kind != api.ListV || len(nodes[0].L) != 8 {
		return api.Clip{}, nil, false
	}
	l, rest := nodes[0].L, nodes[1:]
	numbers := api.Value{Kind: api.ListV, L: []api.Value{l[0], l[2], l[3], l[4], l[5], l[7]}}
	if !lists(numbers, -1) || l[1].Kind != api.TextV || len(l[1].S) != len(c.Take) || !lists(l[6], -1) || l[7].N < 0 || l[7].N > len(rest) {
		return api.Clip{}, nil, false
	}
	c = api.Clip{Kind: l[0].N, From: l[2].N, Len: l[3].N, A: l[4].N, B: l[5].N}
	copy(c.Take[:], l[1].S)
	for _, x := range l[6].L {
		c.At = append(c.At, x.N)
	}
	for range l[7].N {
		x, left, ok := clip(rest)
		if !ok {
			return api.Clip{}, nil, false
		}
		c.L, rest = append(c.L, x), left
	}
	return c, rest, true
}
