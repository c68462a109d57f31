package midi

import (
	"slices"
	"testing"

	"soundpost/api"
	"soundpost/fixtures"
)

func ev(tick, kind, channel, key, value, no int) api.Event {
	return api.Event{Tick: tick, Kind: kind, Channel: channel, Key: key, Value: value, No: no}
}

func on(tick, key int) api.Event { return ev(tick, api.OnM, 0, key, 64, 0) }

func off(tick, key int) api.Event { return ev(tick, api.OffM, 0, key, 0, 0) }

func control(tick, key, value int) api.Event { return ev(tick, api.ControlM, 0, key, value, 0) }

func TestCheck(t *testing.T) {
	many := make([]api.Event, 4097)
	for i := range many {
		many[i] = on(i, 5)
	}
	for i, x := range []struct {
		l    []api.Event
		want api.Errno
	}{
		{nil, api.OK}, {many[:4096], api.OK}, {many, api.ErrLimit}, {make([]api.Event, 4097), api.ErrLimit}, {[]api.Event{ev(0, 3, 0, 0, 0, 0)}, api.ErrMidi}, {[]api.Event{on(1, 1), on(1, 1)}, api.ErrMidi}, {[]api.Event{on(2, 1), on(1, 1)}, api.ErrMidi}, {[]api.Event{on(1, 1), off(1, 1)}, api.ErrMidi},
		{[]api.Event{ev(-1, 3, 0, 0, 1, 0)}, api.ErrMidi}, {[]api.Event{ev(1<<40+1, 3, 0, 0, 1, 0)}, api.ErrMidi}, {[]api.Event{ev(0, 3, 16, 0, 1, 0)}, api.ErrMidi}, {[]api.Event{ev(0, 3, -1, 0, 1, 0)}, api.ErrMidi}, {[]api.Event{ev(0, 3, 0, 128, 1, 0)}, api.ErrMidi}, {[]api.Event{ev(0, 3, 0, -1, 1, 0)}, api.ErrMidi},
		{[]api.Event{ev(0, 3, 0, 0, 128, 0)}, api.ErrMidi}, {[]api.Event{ev(0, 3, 0, 0, 1, 4096)}, api.ErrMidi}, {[]api.Event{ev(0, 3, 0, 0, 1, -1)}, api.ErrMidi}, {[]api.Event{ev(0, 1, 0, 0, 1, 0)}, api.ErrMidi}, {[]api.Event{ev(0, 2, 0, 0, 128, 0)}, api.ErrMidi}, {[]api.Event{ev(0, 2, 0, 0, -1, 0)}, api.ErrMidi}, {[]api.Event{ev(0, 0, 0, 0, 0, 0)}, api.ErrMidi}, {[]api.Event{ev(0, 4, 0, 0, 1, 0)}, api.ErrMidi},
		{[]api.Event{ev(1<<40, 1, 15, 127, 0, 4095), ev(1<<40, 2, 15, 127, 127, 0), ev(1<<40, 3, 0, 0, 127, 0), ev(1<<40, 3, 0, 0, 127, 1)}, api.OK},
	} {
		_, e1 := Resolve(nil, x.l)
		_, e2 := Notes(x.l)
		_, e3 := Slice(x.l, -1, 0)
		if Check(x.l) != x.want || x.want != api.OK && (e1 != x.want || e2 != x.want || e3 != x.want) || x.want == api.OK && (e1 != api.ErrTempo || e3 != api.ErrArg) {
			t.Error(i, Check(x.l), e1, e2, e3)
		}
	}
}

func TestSort(t *testing.T) {
	l := []api.Event{on(5, 1), off(5, 1), on(5, 1), {Tick: -9, Kind: 77}}
	x := Sort(l)
	if !slices.Equal(x, []api.Event{{Tick: -9, Kind: 77}, off(5, 1), on(5, 1), on(5, 1)}) || l[0] != on(5, 1) || !slices.Equal(Sort(x), x) {
		t.Error(x)
	}
}

func TestResolve(t *testing.T) {
	half := []api.Tempo{{N: 1, D: 2}}
	l := []api.Event{on(4, 1), off(5, 1), on(5, 1), on(5, 2)}
	if x, e := Resolve(half, l); e != api.OK || !slices.Equal(x, []api.Event{off(2, 1), on(2, 1), on(2, 2)}) {
		t.Error(x, e)
	}
	if x, e := Resolve(half, []api.Event{on(1<<24+1, 1)}); e != api.ErrArg || x != nil {
		t.Error(e)
	}
	if x, e := Resolve([]api.Tempo{{N: 1 << 20, D: 1}}, []api.Event{on(1<<24, 1), on(1<<24+1, 1)}); e != api.ErrRat || x != nil {
		t.Error(e)
	}
}

func TestNotes(t *testing.T) {
	l := []api.Event{on(1, 5), on(2, 5), on(2, 6), off(3, 5), off(4, 5), on(4, 5)}
	if x, e := Notes(l); e != api.OK || !slices.Equal(x, [][2]int{{0, 1}, {1, 3}, {2, -1}, {5, -1}}) {
		t.Error(x, e)
	}
	if x, e := Notes([]api.Event{ev(1, 3, 0, 5, 1, 0), ev(2, 1, 1, 5, 0, 0), ev(2, 2, 0, 5, 0, 0)}); e != api.OK || !slices.Equal(x, [][2]int{{0, -1}}) {
		t.Error(x, e)
	}
}

func TestSlice(t *testing.T) {
	l := []api.Event{control(1, 7, 10), control(2, 7, 20), control(2, 8, 30), ev(5, api.OnM, 0, 1, 9, 3), control(6, 8, 31), off(15, 1)}
	for i, x := range []struct {
		from, to int
		want     []api.Event
		e        api.Errno
	}{
		{0, 10, []api.Event{control(1, 7, 10), control(2, 7, 20), control(2, 8, 30), ev(5, api.OnM, 0, 1, 9, 3), control(6, 8, 31), ev(10, api.OffM, 0, 1, 0, 3)}, api.OK}, {6, 20, []api.Event{control(6, 7, 20), control(6, 8, 31), off(15, 1)}, api.OK}, {3, 3, []api.Event{control(3, 7, 20), control(3, 8, 30)}, api.OK}, {0, 0, nil, api.OK}, {16, 1 << 40, []api.Event{control(16, 7, 20), control(16, 8, 31)}, api.OK},
		{5, 4, nil, api.ErrArg}, {-1, 4, nil, api.ErrArg}, {0, 1<<40 + 1, nil, api.ErrArg}, {5, 15, []api.Event{control(5, 7, 20), control(5, 8, 30), ev(5, api.OnM, 0, 1, 9, 3), control(6, 8, 31), ev(15, api.OffM, 0, 1, 0, 3)}, api.OK},
	} {
		if y, e := Slice(l, x.from, x.to); e != x.e || !slices.Equal(y, x.want) {
			t.Error(i, y, e)
		}
	}
	var many []api.Event
	for i := range 4096 {
		many = append(many, on(i, i%100))
	}
	if x, e := Slice(many, 0, 5000); e != api.ErrLimit || x != nil {
		t.Error(e)
	}
	if x, e := Slice(many, 1, 3997); e != api.OK || len(x) != 4096 {
		t.Error(len(x), e)
	}
	r := &fixtures.Random{State: 1}
	for range 200 {
		var l []api.Event
		for range r.Intn(20) {
			l = append(l, []api.Event{on(r.Intn(20), r.Intn(3)), off(r.Intn(20), r.Intn(3)), control(r.Intn(20), r.Intn(3), r.Intn(5))}[r.Intn(3)])
		}
		l = once(l)
		from := r.Intn(20)
		to := from + r.Intn(20-from+3)
		x, e := Slice(l, from, to)
		if e != api.OK || Check(x) != api.OK {
			t.Fatal(x, e)
		}
		for _, n := range notes(x) {
			if n[1] < 0 {
				t.Fatal("a note does not end", l, from, to, x)
			}
		}
		for tick := from; tick < to; tick++ {
			for k := range 3 {
				if a, b := held(l, tick, k), held(x, tick, k); a != b {
					t.Fatal("a control", l, from, to, x)
				}
			}
		}
	}
}

// held returns the value of a control at a tick, -1 if it was not set.
func held(l []api.Event, tick, key int) int {
	v := -1
	for _, e := range l {
		if e.Kind == api.ControlM && e.Key == key && e.Tick <= tick {
			v = e.Value
		}
	}
	return v
}
