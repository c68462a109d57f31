package gate

import (
	"math"
	"math/big"
	"slices"
	"testing"

	"soundpost/api"
	"soundpost/fixtures"
)

func TestLevel(t *testing.T) {
	for n, want := range map[int]int{0: -1, -5: -1, 1: 0, 2: 256, 3: 405, 1 << 62: 15872, math.MinInt: -1} {
		if l := Level(n); l != want {
			t.Error(n, l)
		}
	}
	r := &fixtures.Random{State: 1}
	for i := range 60 {
		n := 1 + r.Intn(1<<31)<<r.Intn(31)
		if i == 0 {
			n = math.MaxInt
		}
		p := new(big.Int).Exp(big.NewInt(int64(n)), big.NewInt(256), nil)
		if l := Level(n); l != p.BitLen()-1 {
			t.Error(n, l, p.BitLen()-1)
		}
	}
}

func TestGated(t *testing.T) {
	big := 1 << 62
	for i, x := range []struct {
		l     []int
		floor int
		want  []int
		n     int
		ok    bool
		e     api.Errno
	}{
		{[]int{100, 5, 0}, 1, []int{100}, 100, true, api.OK}, {nil, 0, nil, 0, false, api.OK}, {[]int{big, big}, 0, []int{big, big}, big, true, api.OK}, {[]int{-1}, 0, nil, 0, false, api.ErrArg}, {[]int{1}, -1, nil, 0, false, api.ErrArg}, {[]int{big + 1}, 0, nil, 0, false, api.ErrArg}, {nil, big + 1, nil, 0, false, api.ErrArg},
		{make([]int, 65537), -1, nil, 0, false, api.ErrLimit}, {[]int{5, 4}, 6, nil, 0, false, api.OK}, {[]int{0, 0}, 0, []int{0, 0}, 0, true, api.OK}, {[]int{1, 19}, 0, []int{1, 19}, 10, true, api.OK}, {[]int{1, 21}, 0, []int{21}, 21, true, api.OK}, {[]int{7, 8}, 7, []int{7, 8}, 7, true, api.OK}, {[]int{5, 45, 46}, 0, []int{5, 45, 46}, 32, true, api.OK},
	} {
		l, e1 := Gated(x.l, x.floor)
		n, ok, e2 := Loudness(x.l, x.floor)
		if e1 != x.e || e2 != x.e || !slices.Equal(l, x.want) || n != x.n || ok != x.ok {
			t.Error(i, l, n, ok, e1, e2)
		}
	}
	if n, ok, e := Loudness(slices.Repeat([]int{big}, 65536), 5); n != big || !ok || e != api.OK {
		t.Error(n, ok, e)
	}
}

func TestConsequences(t *testing.T) {
	r := &fixtures.Random{State: 2}
	for range 200 {
		var l []int
		for range r.Intn(12) {
			l = append(l, r.Intn(1000)<<r.Intn(20))
		}
		floor := r.Intn(500)
		n, ok, _ := Loudness(l, floor)
		twice := append(slices.Clone(l), l...)
		slices.Reverse(twice)
		if floor > 0 {
			twice = append(twice, floor-1)
		}
		if m, ok2, _ := Loudness(twice, floor); m != n || ok2 != ok {
			t.Fatal(l, floor, n, m)
		}
		x, _ := Gated(l, floor)
		if ok != (len(x) > 0) || ok && (n < slices.Min(x) || n > slices.Max(x)) || ok != slices.ContainsFunc(l, func(v int) bool { return v >= floor }) {
			t.Fatal(l, floor, n, x)
		}
	}
}
