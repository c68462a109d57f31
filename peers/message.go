package peers

import (
	"bytes"

	"soundpost/api"
	"soundpost/codec"
	"soundpost/edits"
)

func ints(l ...int) api.Value {
	v := api.Value{Kind: api.ListV}
	for _, n := range l {
		v.L = append(v.L, api.Value{Kind: api.IntV, N: n})
	}
	return v
}

func text(s string) api.Value { return api.Value{Kind: api.TextV, S: s} }

// encode returns the message of an operation.
func encode(o api.Op) []byte {
	v := ints(o.Peer, o.No, o.Time, o.Kind, o.A, o.B, o.C, o.D, o.Of[0], o.Of[1])
	nodes := api.Value{Kind: api.ListV}
	var walk func(c api.Clip)
	walk = func(c api.Clip) {
		n := ints(c.Kind)
		n.L = append(n.L, text(string(c.Take[:])))
		n.L = append(n.L, ints(c.From, c.Len, c.A, c.B).L...)
		n.L = append(n.L, ints(c.At...))
		n.L = append(n.L, ints(len(c.L)).L...)
		nodes.L = append(nodes.L, n)
		for _, x := range c.L {
			walk(x)
		}
	}
	walk(o.Clip)
	v.L = append(v.L, ints(o.Knot.At, o.Knot.Value, o.Knot.Shape, o.Knot.A, o.Knot.B), nodes, text(o.Source))
	b, _ := codec.Encode(v)
	return b
}

// at returns an element of a list, the zero value if there is none.
func at(v api.Value, i int) (x api.Value) {
	if i < len(v.L) {
		x = v.L[i]
	}
	return x
}

// decode returns the operation of a message, and false if the data is none. What is read wrongly has another message.
func decode(b []byte) (o api.Op, ok bool) {
	v, e := codec.Decode(b)
	if e != api.OK {
		return api.Op{}, false
	}
	n := func(i int) int { return at(v, i).N }
	o = api.Op{Peer: n(0), No: n(1), Time: n(2), Kind: n(3), A: n(4), B: n(5), C: n(6), D: n(7), Of: [2]int{n(8), n(9)}}
	k := at(v, 10)
	o.Knot = api.Knot{At: at(k, 0).N, Value: at(k, 1).N, Shape: at(k, 2).N, A: at(k, 3).N, B: at(k, 4).N}
	nodes := at(v, 11).L
	o.Clip, _ = clip(nodes)
	o.Source = at(v, 12).S
	if len(nodes) > api.MaxClip || edits.Check(o) != api.OK || !bytes.Equal(encode(o), b) {
		return api.Op{}, false
	}
	return o, true
}

// clip reads the nodes of a clip in preorder, and returns what is left of them.
func clip(nodes []api.Value) (c api.Clip, rest []api.Value) {
	if len(nodes) == 0 {
		return api.Clip{}, nil
	}
	v, rest := nodes[0], nodes[1:]
	c = api.Clip{Kind: at(v, 0).N, From: at(v, 2).N, Len: at(v, 3).N, A: at(v, 4).N, B: at(v, 5).N}
	copy(c.Take[:], at(v, 1).S)
	for _, x := range at(v, 6).L {
		c.At = append(c.At, x.N)
	}
	for range at(v, 7).N {
		if len(rest) == 0 {
			break
		}
		var x api.Clip
		x, rest = clip(rest)
		c.L = append(c.L, x)
	}
	return c, rest
}
