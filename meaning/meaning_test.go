package meaning

import (
	"slices"
	"testing"

	"soundpost/api"
	"soundpost/fixtures"
	"soundpost/tails"
)

func proc(t *testing.T, head, body string) api.Proc {
	t.Helper()
	l := fixtures.Resolve("processor p " + head + " { " + body + " }")
	if len(l) != 1 {
		t.Fatal(body)
	}
	return l[0]
}

func same(a, b api.State) bool {
	return slices.Equal(a.Values, b.Values) && slices.EqualFunc(a.Lines, b.Lines, slices.Equal[[]int])
}

func TestStart(t *testing.T) {
	p := proc(t, "latency 0 tail 0", "state a from 2 to 5; state b from -5 to -2; state c from -1 to 1; line d 3 from 4 to 5; out 1;")
	s, e := Start(p)
	if e != api.OK || !slices.Equal(s.Values, []int{2, -2, 0}) || len(s.Lines) != 1 || !slices.Equal(s.Lines[0], []int{0, 0, 0}) {
		t.Error(s, e)
	}
	bad := proc(t, "latency 0 tail 0", "state s from 0 to 9; set s = min(s + 1, 9); out s;")
	if s, e := Start(bad); e != api.ErrTail || s.Values != nil {
		t.Error(e)
	}
	if o, x, e := Step(bad, nil, nil, nil, api.State{}); e != api.ErrTail || o != 0 || x.Values != nil {
		t.Error(e)
	}
}

func TestStep(t *testing.T) {
	for i, x := range []struct {
		body       string
		params, in []int
		s          api.State
		out        int
		want       api.State
	}{
		{"out in(0);", nil, []int{7}, api.State{}, 7, api.State{}},
		{"state s from 0 to 9; set s = min(s + 1, 9); out s * 2;", nil, []int{0}, api.State{Values: []int{3}}, 8, api.State{Values: []int{4}}},
		{"out -7 / 2;", nil, []int{0}, api.State{}, -4, api.State{}},
		{"table t = 5, 6; out look(t, in(0));", nil, []int{100}, api.State{}, 6, api.State{}},
		{"table t = 5, 6; out look(t, in(0));", nil, []int{-100}, api.State{}, 5, api.State{}},
		{"line d 2 from -9 to 9; push d = max(-9, min(in(0), 9)); out tap(d, 1);", nil, []int{5}, api.State{Lines: [][]int{{3, 4}}}, 4, api.State{Lines: [][]int{{5, 3}}}},
		{"line d 2 from -9 to 9; push d = max(-9, min(in(0), 9)); out tap(d, in(0) * 7);", nil, []int{5}, api.State{Lines: [][]int{{3, 4}}}, 4, api.State{Lines: [][]int{{5, 3}}}},
		{"line d 2 from -9 to 9; out tap(d, -1);", nil, []int{5}, api.State{Lines: [][]int{{3, 4}}}, 3, api.State{Lines: [][]int{{3, 4}}}},
		{"param p from 0 to 5; state s from 0 to 9; let a = s; set s = p; out if a < s then a else s - 1;", []int{5}, []int{5}, api.State{Values: []int{2}}, 2, api.State{Values: []int{5}}},
		{"param p from 0 to 5; state s from 0 to 9; let a = s; set s = p; out if a < s then a else s - 1;", []int{2}, []int{5}, api.State{Values: []int{2}}, 1, api.State{Values: []int{2}}},
		{"out sat(abs(in(0)) * in(0));", nil, []int{-1 << 31}, api.State{}, -1 << 31, api.State{}},
	} {
		p := proc(t, "latency 0 tail forever", x.body)
		before := slices.Clone(x.s.Values)
		o, s, e := Step(p, x.params, x.in, []int{0}, x.s)
		if e != api.OK || o != x.out || !same(s, x.want) || !slices.Equal(before, x.s.Values) {
			t.Error(i, o, s, e)
		}
	}
}

func TestAhead(t *testing.T) {
	p := proc(t, "latency 2 tail 0", "param k from 0 to 2; out sat(in(k) - side(2 - k));")
	for k, want := range []int{1 - 60, 2 - 50, 3 - 40} {
		if o, _, e := Step(p, []int{k}, []int{1, 2, 3}, []int{40, 50, 60}, api.State{}); o != want || e != api.OK {
			t.Error(k, o, e)
		}
	}
}

func TestErrors(t *testing.T) {
	p := proc(t, "latency 1 tail forever", "param p from 0 to 5; state s from 1 to 2; line d 2 from 4 to 9; out tap(d, s);")
	ok := api.State{Values: []int{1}, Lines: [][]int{{0, 9}}}
	two := []int{1, 2}
	for i, x := range []struct {
		params, in, side []int
		s                api.State
		want             api.Errno
	}{
		{[]int{5}, two, two, ok, api.OK}, {nil, two, two, ok, api.ErrArg}, {[]int{6}, two, two, ok, api.ErrArg}, {[]int{-1}, two, two, ok, api.ErrArg}, {[]int{5}, two[:1], two, ok, api.ErrArg},
		{[]int{5}, two, []int{1, 1 << 31}, ok, api.ErrArg}, {[]int{5}, two, two, api.State{}, api.ErrState}, {[]int{5}, two, two, api.State{Values: []int{0}, Lines: ok.Lines}, api.ErrState},
		{[]int{5}, two, two, api.State{Values: []int{1}, Lines: [][]int{{0, 3}}}, api.ErrState}, {[]int{5}, two, two, api.State{Values: []int{1}, Lines: [][]int{{0}}}, api.ErrState},
		{[]int{5}, two, two, api.State{Values: []int{1}, Lines: [][]int{{4, 4}, nil}}, api.ErrState}, {[]int{7}, two, two, api.State{}, api.ErrArg},
	} {
		o, s, e := Step(p, x.params, x.in, x.side, x.s)
		if e != x.want || e != api.OK && (o != 0 || s.Values != nil || s.Lines != nil) {
			t.Error(i, e)
		}
	}
}

// TestTail runs a processor from two states: after its tail nothing of them is left.
func TestTail(t *testing.T) {
	p := proc(t, "latency 0 tail 6", "state s from -100 to 100; line d 2 from -100 to 100; line e 3 from -100 to 100; let a = s; set s = max(-100, min(100, tap(e, 2))); push d = max(-100, min(100, in(0))); push e = tap(d, 1); out a;")
	if n, _ := tails.Memory(p); n != 6 {
		t.Fatal(n)
	}
	a, _ := Start(p)
	b := api.State{Values: []int{77}, Lines: [][]int{{9, 8}, {7, 6, 5}}}
	differed := false
	for i := range 20 {
		in := []int{i*37%200 - 100}
		x, c, _ := Step(p, nil, in, in, a)
		y, d, e := Step(p, nil, in, in, b)
		if e != api.OK || i >= 6 && x != y {
			t.Error(i, x, y, e)
		}
		differed = differed || x != y
		a, b = c, d
	}
	if !differed {
		t.Error("the states do not matter")
	}
}
