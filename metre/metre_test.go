package metre

import (
	"math"
	"math/rand"
	"slices"
	"testing"

	"soundpost/api"
)

func change(bar, beats, unit int) api.Metre { return api.Metre{Bar: bar, Beats: beats, Unit: unit} }

var four = []api.Metre{change(0, 4, 480)}

func TestCheck(t *testing.T) {
	for i, l := range [][]api.Metre{
		nil, {change(1, 4, 4)}, {change(0, 0, 1)}, {change(0, 33, 1)}, {change(0, 1, 0)}, {change(0, 1, 65537)},
		{change(0, 1, 1), change(0, 1, 1)}, {change(0, 1, 1), change(1<<20+1, 1, 1)}, {change(0, 1, 1), change(5, 1, 1), change(4, 1, 1)}, make([]api.Metre, 65),
	} {
		_, e1 := Tick(l, -1, 0, 0)
		_, _, _, e2 := Place(l, -1)
		_, e3 := Bars(l, 1, 0)
		if Check(l) != api.ErrMetre || e1 != api.ErrMetre || e2 != api.ErrMetre || e3 != api.ErrMetre {
			t.Error(i)
		}
	}
	if Check([]api.Metre{change(0, 32, 65536), change(1<<20, 1, 1)}) != api.OK {
		t.Error("the greatest changes")
	}
}

func TestTick(t *testing.T) {
	two := []api.Metre{change(0, 4, 480), change(2, 3, 480)}
	for i, x := range []struct {
		l              []api.Metre
		bar, beat, off int
		want           int
		e              api.Errno
	}{
		{four, 2, 1, 3, 4323, api.OK}, {[]api.Metre{change(0, 1, 1)}, 7, 0, 0, 7, api.OK}, {two, 3, 2, 479, 3840 + 1440 + 960 + 479, api.OK},
		{two, 2, 3, 0, 0, api.ErrArg}, {two, 1, 3, 480, 0, api.ErrArg}, {four, -1, 0, 0, 0, api.ErrArg}, {four, 0, -1, 0, 0, api.ErrArg}, {four, 0, 0, -1, 0, api.ErrArg},
		{four, 1<<20 + 1, 0, 0, 0, api.ErrArg}, {four, 1 << 20, 0, 0, 0, api.ErrRat}, {four, math.MinInt, 0, 0, 0, api.ErrArg}, {four, math.MaxInt, 0, 0, 0, api.ErrArg},
		{[]api.Metre{change(0, 16, 1)}, 1 << 20, 0, 0, 1 << 24, api.OK}, {[]api.Metre{change(0, 16, 1)}, 1 << 20, 1, 0, 0, api.ErrRat},
	} {
		if n, e := Tick(x.l, x.bar, x.beat, x.off); n != x.want || e != x.e {
			t.Error(i, n, e)
		}
	}
}

func TestPlace(t *testing.T) {
	one := []api.Metre{change(0, 1, 1)}
	if bar, beat, off, e := Place(four, 1920); bar != 1 || beat != 0 || off != 0 || e != api.OK {
		t.Error(bar, beat, off, e)
	}
	if bar, _, _, e := Place(one, 1<<20); bar != 1<<20 || e != api.OK {
		t.Error(bar, e)
	}
	for tick, want := range map[int]api.Errno{1<<20 + 1: api.ErrRat, -1: api.ErrArg, 1<<24 + 1: api.ErrArg} {
		if bar, beat, off, e := Place(one, tick); bar != 0 || beat != 0 || off != 0 || e != want {
			t.Error(tick, e)
		}
	}
	r := rand.New(rand.NewSource(1))
	for range 200 {
		l := []api.Metre{change(0, 1+r.Intn(32), 1+r.Intn(600))}
		for range r.Intn(5) {
			l = append(l, change(l[len(l)-1].Bar+1+r.Intn(9), 1+r.Intn(32), 1+r.Intn(600)))
		}
		tick := r.Intn(1 << 19)
		bar, beat, off, e := Place(l, tick)
		if back, f := Tick(l, bar, beat, off); e != api.OK || f != api.OK || back != tick {
			t.Fatal(l, tick, back, e, f)
		}
	}
}

func TestBars(t *testing.T) {
	two := []api.Metre{change(0, 4, 480), change(2, 3, 480)}
	one := []api.Metre{change(0, 1, 1)}
	for i, x := range []struct {
		l        []api.Metre
		from, to int
		want     []int
		e        api.Errno
	}{
		{two, 1, 5999, []int{1920, 3840, 5280}, api.OK}, {two, 0, 1, []int{0}, api.OK}, {two, 3840, 3841, []int{3840}, api.OK}, {two, 3840, 3840, nil, api.OK},
		{two, 1921, 3840, nil, api.OK}, {one, 0, 4097, nil, api.ErrLimit}, {one, 5, 5, nil, api.OK}, {one, 1 << 20, 1 << 24, []int{1 << 20}, api.OK},
		{one, -1, 5, nil, api.ErrArg}, {one, 5, 4, nil, api.ErrArg}, {one, 0, 1<<24 + 1, nil, api.ErrArg},
	} {
		if l, e := Bars(x.l, x.from, x.to); !slices.Equal(l, x.want) || e != x.e {
			t.Error(i, l, e)
		}
	}
	if l, e := Bars(one, 7, 4103); len(l) != 4096 || l[4095] != 4102 || e != api.OK {
		t.Error(len(l), e)
	}
}
