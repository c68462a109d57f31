package tempo

import (
	"math/big"
	"math/rand"
	"slices"
	"testing"

	"soundpost/api"
)

func point(tick, n, d int) api.Tempo { return api.Tempo{Tick: tick, N: n, D: d} }

func ramp(tick, n, d int) api.Tempo { return api.Tempo{Tick: tick, N: n, D: d, Ramp: true} }

func TestCheck(t *testing.T) {
	long := []api.Tempo{point(0, 1, 1)}
	for i := range 63 {
		long = append(long, point(i+1, 1, 1))
	}
	for i, m := range [][]api.Tempo{{point(0, 1, 1)}, {point(0, 1<<20, 256), point(1<<24, 1, 1)}, {ramp(0, 1, 1), point(65536, 2, 1)}, long} {
		if e := Check(m); e != api.OK {
			t.Error(i, e)
		}
	}
	for i, m := range [][]api.Tempo{
		nil, {point(1, 1, 1)}, {point(0, 0, 1)}, {point(0, 1, 0)}, {point(0, 1<<20+1, 1)}, {point(0, 1, 257)}, {ramp(0, 1, 1)},
		{point(0, 1, 1), point(0, 1, 1)}, {point(0, 1, 1), point(1<<24+1, 1, 1)}, {ramp(0, 1, 1), point(65537, 1, 1)},
		{point(0, 1, 1), point(5, 1, 1), point(4, 1, 1)}, append(long, point(99, 1, 1)),
	} {
		_, e1 := Sample(m, -1)
		_, e2 := Tick(m, -1)
		if Check(m) != api.ErrTempo || e1 != api.ErrTempo || e2 != api.ErrTempo {
			t.Error(i)
		}
	}
}

func TestSample(t *testing.T) {
	for i, x := range []struct {
		m          []api.Tempo
		tick, want int
		e          api.Errno
	}{
		{[]api.Tempo{point(0, 1, 3)}, 2, 0, api.OK}, {[]api.Tempo{point(0, 1, 3)}, 4, 1, api.OK}, {[]api.Tempo{point(0, 5, 2)}, 3, 7, api.OK},
		{[]api.Tempo{point(0, 1<<20, 1)}, 1 << 24, 0, api.ErrRat}, {[]api.Tempo{point(0, 1<<16, 1)}, 1 << 24, 1 << 40, api.OK},
		{[]api.Tempo{ramp(0, 48, 1), point(100, 24, 1)}, 100, 3600, api.OK}, {[]api.Tempo{ramp(0, 48, 1), point(100, 24, 1)}, 50, 2100, api.OK},
		{[]api.Tempo{ramp(0, 48, 1), point(100, 24, 1)}, 101, 3624, api.OK}, {[]api.Tempo{point(0, 1, 1)}, -1, 0, api.ErrArg},
		{[]api.Tempo{point(0, 1, 1)}, 1<<24 + 1, 0, api.ErrArg}, {[]api.Tempo{point(0, 1, 2), point(3, 1, 2)}, 4, 1, api.OK},
	} {
		if pos, e := Sample(x.m, x.tick); pos != x.want || e != x.e {
			t.Error(i, pos, e)
		}
	}
}

func random(r *rand.Rand) []api.Tempo {
	m := []api.Tempo{point(0, 1+r.Intn(1<<20)>>r.Intn(20), 1+r.Intn(256))}
	for range r.Intn(6) {
		last := &m[len(m)-1]
		last.Ramp = r.Intn(2) == 0
		m = append(m, point(last.Tick+1+r.Intn(65536), 1+r.Intn(1<<20)>>r.Intn(20), 1+r.Intn(256)))
	}
	return m
}

// slow calculates the sample of a tick with big numbers.
func slow(m []api.Tempo, tick int) int {
	pos := 0
	for i, p := range m {
		if p.Tick > tick {
			break
		}
		to := tick
		if i+1 < len(m) {
			to = min(to, m[i+1].Tick)
		}
		n := int64(to - p.Tick)
		speed := big.NewRat(int64(p.N), int64(p.D))
		sum := new(big.Rat).Mul(speed, big.NewRat(n, 1))
		if p.Ramp {
			next := m[i+1]
			d := new(big.Rat).Sub(big.NewRat(int64(next.N), int64(next.D)), speed)
			sum.Add(sum, d.Mul(d, big.NewRat(n*n, 2*int64(next.Tick-p.Tick))))
		}
		pos += int(new(big.Int).Div(sum.Num(), sum.Denom()).Int64())
	}
	return pos
}

func TestExact(t *testing.T) {
	r := rand.New(rand.NewSource(1))
	for range 300 {
		m := random(r)
		for range 10 {
			tick := r.Intn(400000)
			pos, e := Sample(m, tick)
			if want := slow(m, tick); want <= api.MaxPos && (pos != want || e != api.OK) {
				t.Fatal(m, tick, pos, want)
			}
			if e != api.OK {
				continue
			}
			back, e := Tick(m, pos)
			if e != api.OK || sample(m, back) > pos || back < api.MaxTick && sample(m, back+1) <= pos {
				t.Fatal(m, tick, back, e)
			}
		}
	}
}

func TestTick(t *testing.T) {
	m := []api.Tempo{point(0, 1, 3)}
	if n, e := Tick(m, 0); n != 2 || e != api.OK {
		t.Error(n, e)
	}
	if n, e := Tick(m, 1<<40); n != 1<<24 || e != api.OK {
		t.Error(n, e)
	}
	for _, pos := range []int{-1, 1<<40 + 1} {
		if n, e := Tick(m, pos); e != api.ErrArg || n != 0 {
			t.Error(pos)
		}
	}
}

func TestInsert(t *testing.T) {
	m := []api.Tempo{point(0, 1, 1), point(10, 2, 1)}
	for i, x := range []struct {
		m    []api.Tempo
		t    api.Tempo
		want []api.Tempo
	}{
		{nil, point(0, 1, 1), []api.Tempo{point(0, 1, 1)}},
		{m, point(5, 3, 1), []api.Tempo{m[0], point(5, 3, 1), m[1]}},
		{m, point(10, 3, 1), []api.Tempo{m[0], point(10, 3, 1)}},
		{m, point(11, 3, 1), []api.Tempo{m[0], m[1], point(11, 3, 1)}},
		{m, ramp(0, 3, 1), []api.Tempo{ramp(0, 3, 1), m[1]}},
		{m, ramp(11, 3, 1), nil}, {m, point(-1, 1, 1), nil}, {nil, point(1, 1, 1), nil},
		{[]api.Tempo{point(0, 1, 1), point(9, 0, 0), point(5, 1, 1)}, point(9, 1, 1), nil},
		{[]api.Tempo{point(0, 0, 0)}, point(0, 7, 1), []api.Tempo{point(0, 7, 1)}},
	} {
		y, e := Insert(x.m, x.t)
		if !slices.Equal(y, x.want) || (e == api.OK) != (x.want != nil) || e != api.OK && e != api.ErrTempo {
			t.Error(i, y, e)
		}
	}
	if m[1] != point(10, 2, 1) {
		t.Error("the map is changed")
	}
}
