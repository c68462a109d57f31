package normal

import (
	"slices"
	"testing"

	"soundpost/api"
	"soundpost/clips"
	"soundpost/equal"
	"soundpost/fixtures"
	"soundpost/pool"
)

var d = api.Digest{1}

func take(from, n int) api.Clip { return api.Clip{Kind: api.TakeK, Take: d, From: from, Len: n} }

func rest(n int) api.Clip { return api.Clip{Kind: api.RestK, Len: n} }

func cut(from, n int, c api.Clip) api.Clip {
	return api.Clip{Kind: api.CutK, From: from, Len: n, L: []api.Clip{c}}
}

func back(c api.Clip) api.Clip { return api.Clip{Kind: api.BackK, L: []api.Clip{c}} }

func fade(a, b int, c api.Clip) api.Clip {
	return api.Clip{Kind: api.FadeK, A: a, B: b, L: []api.Clip{c}}
}

func joined(l ...api.Clip) api.Clip { return api.Clip{Kind: api.JoinK, L: l} }

func TestNormal(t *testing.T) {
	for i, x := range []struct{ c, want api.Clip }{
		{cut(2, 3, take(10, 10)), take(12, 3)}, {joined(take(5, 2), back(take(5, 2))), joined(take(5, 2), back(take(5, 2)))}, {joined(take(5, 1), back(take(5, 2))), joined(take(5, 2), take(5, 1))},
		{joined(take(6, 1), take(5, 1)), back(take(5, 2))}, {joined(rest(3), rest(4)), rest(7)}, {cut(1, 2, fade(1, 0, rest(4))), cut(1, 2, fade(1, 0, rest(4)))}, {joined(take(0, 5), take(5, 5)), take(0, 10)},
		{back(take(1, 3)), back(take(1, 3))}, {back(back(take(1, 3))), take(1, 3)}, {cut(0, 1, back(take(1, 3))), take(3, 1)}, {back(rest(3)), rest(3)}, {joined(fade(1, 1, joined(rest(1), rest(2)))), fade(1, 1, rest(3))},
		{joined(cut(0, 1, fade(1, 1, rest(3))), cut(1, 2, fade(1, 1, rest(3)))), fade(1, 1, rest(3))}, {back(fade(1, 1, rest(3))), back(fade(1, 1, rest(3)))}, {cut(0, 2, back(fade(1, 1, rest(3)))), back(cut(1, 2, fade(1, 1, rest(3))))},
		{take(1<<24-1, 3), joined(take(1<<24-1, 1), rest(2))}, {take(1<<24, 3), rest(3)}, {joined(take(1<<24-1, 3), rest(2)), joined(take(1<<24-1, 1), rest(4))}, {joined(take(5, 2), take(5, 2)), joined(take(5, 2), take(5, 2))},
		{joined(take(5, 1), take(5, 1)), joined(take(5, 1), take(5, 1))}, {joined(take(5, 1), take(6, 1), take(5, 1), take(4, 1)), joined(take(5, 2), back(take(4, 2)))}, {fade(0, 0, take(1, 2)), fade(0, 0, take(1, 2))},
		{joined(fade(0, 0, rest(1)), fade(0, 0, rest(1))), joined(fade(0, 0, rest(1)), fade(0, 0, rest(1)))},
	} {
		y, e := Normal(x.c)
		if e != api.OK || !equal.Clip(y, x.want) {
			t.Error(i, y, e)
		}
		if z, e := Normal(y); e != api.OK || !equal.Clip(y, z) {
			t.Error(i, "again", z, e)
		}
	}
	if x, e := Back(back(take(1, 3))); e != api.OK || !equal.Clip(x, take(1, 3)) {
		t.Error(x, e)
	}
	if x, e := Cut(take(3, 9), 2, 4); e != api.OK || !equal.Clip(x, take(5, 4)) {
		t.Error(x, e)
	}
}

func TestErrors(t *testing.T) {
	for i, x := range [][2]int{{-1, 1}, {0, 0}, {0, 4}, {3, 1}, {1 << 62, 1 << 62}, {1, 1<<63 - 1}} {
		if y, e := Cut(rest(3), x[0], x[1]); e != api.ErrArg || y.Kind != 0 {
			t.Error(i, e)
		}
	}
	_, e1 := Normal(api.Clip{})
	_, e2 := Cut(api.Clip{}, -1, 0)
	_, e3 := Back(api.Clip{})
	_, e4 := Same(api.Clip{}, rest(1))
	_, e5 := Same(rest(1), api.Clip{})
	if e1 != api.ErrClip || e2 != api.ErrClip || e3 != api.ErrClip || e4 != api.ErrClip || e5 != api.ErrClip {
		t.Error(e1, e2, e3, e4, e5)
	}
}

// wide is a clip of 251 nodes whose normal form has more: each of its takes ends in silence.
func wide() api.Clip {
	return joined(slices.Repeat([]api.Clip{take(1<<24-1, 2)}, 250)...)
}

func TestLimit(t *testing.T) {
	c := wide()
	if clips.Check(c) != api.OK {
		t.Fatal("not valid")
	}
	if x, e := Normal(c); e != api.ErrLimit || x.Kind != 0 {
		t.Error(e)
	}
	if x, e := Cut(c, 0, 20); e != api.OK || len(x.L) != 20 {
		t.Error(e)
	}
	if _, e := Cut(fade(0, 0, c), 0, 20); e != api.ErrLimit {
		t.Error(e)
	}
	if _, e := Cut(joined(rest(5), fade(0, 0, c)), 0, 5); e != api.ErrLimit {
		t.Error("also in parts that a cut leaves out", e)
	}
	if _, e := Cut(fade(0, 0, c), 0, 1<<24); e != api.ErrArg {
		t.Error(e)
	}
	if _, e := Back(c); e != api.ErrLimit {
		t.Error(e)
	}
	if same, e := Same(c, api.Clip{}); same || e != api.ErrLimit {
		t.Error(e)
	}
	if same, e := Same(rest(1), c); same || e != api.ErrLimit {
		t.Error(e)
	}
	deep := take(0, 9)
	for range 13 {
		deep = fade(0, 0, deep)
	}
	if _, e := Normal(joined(rest(2), back(deep))); e != api.OK {
		t.Error(e)
	}
	if _, e := Cut(joined(rest(2), back(deep)), 1, 3); e != api.ErrLimit {
		t.Error("nesting", e)
	}
}

func TestSame(t *testing.T) {
	for i, x := range []struct {
		a, b api.Clip
		want bool
	}{
		{joined(take(0, 5), take(5, 5)), take(0, 10), true}, {take(0, 10), take(0, 9), false}, {cut(2, 4, back(take(0, 8))), back(cut(2, 4, take(0, 8))), true}, {fade(0, 0, rest(1)), rest(1), false},
		{joined(joined(rest(1), take(0, 1)), rest(1)), joined(rest(1), joined(take(0, 1), rest(1))), true},
	} {
		if same, e := Same(x.a, x.b); same != x.want || e != api.OK {
			t.Error(i, same, e)
		}
	}
}

// TestSound compares the samples of clips and of their normal forms.
func TestSound(t *testing.T) {
	var p api.Pool
	var names []api.Digest
	for _, data := range [][]int{{5, -7, 1 << 30, 3, -1 << 31, 8, 9, 2}, {70, 71, 72}} {
		x, name, _ := pool.Put(p, data)
		p, names = x, append(names, name)
	}
	r := &fixtures.Random{State: 6}
	samples := func(c api.Clip) []int {
		n, e := clips.Len(c)
		x, f := clips.Samples(p, c, 0, n)
		if e != api.OK || f != api.OK {
			t.Fatal(e, f)
		}
		return x
	}
	for range 600 {
		c := r.Clip(names, 4)
		x, e := Normal(c)
		if e != api.OK || !slices.Equal(samples(c), samples(x)) {
			t.Fatal(c, x, e)
		}
		if y, _ := Normal(x); !equal.Clip(x, y) {
			t.Fatal("not its own normal form", x, y)
		}
		all := samples(c)
		k := 1 + r.Intn(len(all))
		first, e := Cut(c, 0, k)
		if e != api.OK || !slices.Equal(samples(first), all[:k]) {
			t.Fatal("cut", c, k)
		}
		if k < len(all) {
			last, _ := Cut(c, k, len(all)-k)
			if same, e := Same(joined(first, last), c); !same || e != api.OK {
				t.Fatal("cut in two", c, k)
			}
		}
		turned, _ := Back(c)
		slices.Reverse(all)
		if again, _ := Back(turned); !slices.Equal(samples(turned), all) || !equal.Clip(again, x) {
			t.Fatal("turned around", c)
		}
	}
}

// sequence returns the origins of all samples: a take and an index, or silence.
func sequence(c api.Clip) (l [][2]int) {
	switch c.Kind {
	case api.TakeK:
		for i := range c.Len {
			if c.From+i < 1<<24 {
				l = append(l, [2]int{int(c.Take[0]), c.From + i})
			} else {
				l = append(l, [2]int{-1, 0})
			}
		}
	case api.RestK:
		for range c.Len {
			l = append(l, [2]int{-1, 0})
		}
	case api.CutK:
		l = sequence(c.L[0])[c.From : c.From+c.Len]
	case api.BackK:
		l = slices.Clone(sequence(c.L[0]))
		slices.Reverse(l)
	case api.JoinK:
		for _, x := range c.L {
			l = append(l, sequence(x)...)
		}
	}
	return l
}

// TestExact compares clips by their origins and by their normal forms.
func TestExact(t *testing.T) {
	r := &fixtures.Random{State: 8}
	var arbitrary func(depth int) api.Clip
	arbitrary = func(depth int) api.Clip {
		switch kind := r.Intn(6); {
		case depth == 0 || kind < 2:
			if r.Intn(4) == 0 {
				return rest(1 + r.Intn(2))
			}
			from := r.Intn(3)
			if r.Intn(6) == 0 {
				from = 1<<24 - 2
			}
			return api.Clip{Kind: api.TakeK, Take: api.Digest{byte(r.Intn(2))}, From: from, Len: 1 + r.Intn(3)}
		case kind == 2:
			return back(arbitrary(depth - 1))
		case kind == 3:
			c := arbitrary(depth - 1)
			n := len(sequence(c))
			from := r.Intn(n)
			return cut(from, 1+r.Intn(n-from), c)
		}
		return joined(arbitrary(depth-1), arbitrary(depth-1))
	}
	equals := 0
	var l []api.Clip
	for range 300 {
		l = append(l, arbitrary(3))
	}
	for i, a := range l {
		for _, b := range l[:i] {
			same, e := Same(a, b)
			want := slices.Equal(sequence(a), sequence(b))
			if e != api.OK || same != want {
				t.Fatal(a, b, same, e)
			}
			if want {
				equals++
			}
		}
	}
	if equals < 100 {
		t.Error(equals)
	}
}
