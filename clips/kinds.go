package clips

import (
	"slices"

	"soundpost/api"
	"soundpost/fades"
	"soundpost/fixed"
	"soundpost/pool"
	"soundpost/speed"
	"soundpost/whole"
)

// kind says for the clips of a kind whether their fields are right, how long they are (by the lengths of the clips in them), and which samples from from to from + n - 1 they have.
type kind struct {
	formed  func(c api.Clip) bool
	length  func(c api.Clip, l []int) int
	samples func(r reader, c api.Clip, from, n int) []int
}

func kinds() [api.LayK + 1]kind {
	return [api.LayK + 1]kind{
		api.TakeK:  {takeFormed, ownLength, takeSamples},
		api.RestK:  {restFormed, ownLength, restSamples},
		api.CutK:   {cutFormed, cutLength, cutSamples},
		api.BackK:  {backFormed, sameLength, backSamples},
		api.SpeedK: {speedFormed, speedLength, speedSamples},
		api.FadeK:  {fadeFormed, fadeLength, fadeSamples},
		api.JoinK:  {joinFormed, joinLength, joinSamples},
		api.LayK:   {layFormed, layLength, laySamples},
	}
}

// reader reads the samples of valid clips.
type reader struct {
	pool  api.Pool
	kinds [api.LayK + 1]kind
}

func (r reader) samples(c api.Clip, from, n int) []int {
	return r.kinds[c.Kind].samples(r, c, from, n)
}

func (r reader) length(c api.Clip) int { return measurer{r.kinds}.length(c) }

// field is a field of a clip that its kind may use.
type field int

const (
	takes field = 1 << iota
	spans
	ends
	places
)

// uses checks that a clip has no other fields than those of its kind, and as many clips as it needs (-1: at least one).
func uses(c api.Clip, f field, clips int) bool {
	return (f&takes != 0 || c.Take == api.Digest{}) && (f&spans != 0 || c.From == 0 && c.Len == 0) &&
		(f&ends != 0 || c.A == 0 && c.B == 0) && (f&places != 0 || len(c.At) == 0) &&
		(len(c.L) == clips || clips < 0 && len(c.L) > 0)
}

func takeFormed(c api.Clip) bool {
	return uses(c, takes|spans, 0) && whole.Within(c.From, 0, api.MaxTake) && whole.Within(c.Len, 1, api.MaxTake)
}

func restFormed(c api.Clip) bool {
	return uses(c, spans, 0) && c.From == 0 && whole.Within(c.Len, 1, api.MaxTake)
}

func cutFormed(c api.Clip) bool {
	return uses(c, spans, 1) && whole.Within(c.From, 0, api.MaxTake) && whole.Within(c.Len, 1, api.MaxTake)
}

func backFormed(c api.Clip) bool { return uses(c, 0, 1) }

func speedFormed(c api.Clip) bool {
	_, e := speed.Len(0, c.A, c.B)
	return uses(c, ends, 1) && e == api.OK
}

func fadeFormed(c api.Clip) bool {
	return uses(c, ends, 1) && whole.Within(c.A, 0, api.MaxTake) && whole.Within(c.B, 0, api.MaxTake)
}

func joinFormed(c api.Clip) bool { return uses(c, 0, -1) }

func layFormed(c api.Clip) bool {
	beyond := func(at int) bool { return !whole.Within(at, 0, api.MaxTake) }
	return uses(c, places, -1) && len(c.At) == len(c.L) && !slices.ContainsFunc(c.At, beyond)
}

func ownLength(c api.Clip, l []int) int { return c.Len }

func cutLength(c api.Clip, l []int) int {
	must(c.From+c.Len <= l[0])
	return c.Len
}

func sameLength(c api.Clip, l []int) int { return l[0] }

func speedLength(c api.Clip, l []int) int {
	n, _ := speed.Len(l[0], c.A, c.B)
	return n
}

func fadeLength(c api.Clip, l []int) int {
	must(c.A+c.B <= l[0])
	return l[0]
}

func joinLength(c api.Clip, l []int) int {
	sum := 0
	for _, n := range l {
		sum += n
	}
	return sum
}

func layLength(c api.Clip, l []int) int {
	most := 0
	for i, n := range l {
		most = max(most, c.At[i]+n)
	}
	return most
}

func takeSamples(r reader, c api.Clip, from, n int) []int {
	x := make([]int, n)
	data, _ := pool.Look(r.pool, c.Take)
	first := c.From + from
	for i := first; i < min(first+n, len(data)); i++ {
		x[i-first] = fixed.Clip(data[i])
	}
	return x
}

func restSamples(r reader, c api.Clip, from, n int) []int { return make([]int, n) }

func cutSamples(r reader, c api.Clip, from, n int) []int { return r.samples(c.L[0], c.From+from, n) }

func backSamples(r reader, c api.Clip, from, n int) []int {
	x := r.samples(c.L[0], r.length(c.L[0])-from-n, n)
	slices.Reverse(x)
	return x
}

func speedSamples(r reader, c api.Clip, from, n int) []int {
	// The place of a multiple of B is an integer, from which the part is read that is needed.
	skipped := from / c.B
	first, last := skipped*c.A, ((from+n-1)*c.A+c.B-1)/c.B
	part := r.samples(c.L[0], first, last-first+1)
	x := make([]int, n)
	for i := range x {
		x[i], _ = speed.At(part, c.A, c.B, from+i-skipped*c.B)
	}
	return x
}

func fadeSamples(r reader, c api.Clip, from, n int) []int {
	x := r.samples(c.L[0], from, n)
	last := r.length(c.L[0]) - 1
	for i := range x {
		if g, e := fades.Gain(from+i, c.A); e == api.OK {
			x[i] = fixed.Mul(x[i], g)
		}
		if g, e := fades.Gain(last-from-i, c.B); e == api.OK {
			x[i] = fixed.Mul(x[i], g)
		}
	}
	return x
}

func joinSamples(r reader, c api.Clip, from, n int) []int {
	x, at := make([]int, n), 0
	for _, y := range c.L {
		at += r.cover(x, y, at, from)
	}
	return x
}

func laySamples(r reader, c api.Clip, from, n int) []int {
	x := make([]int, n)
	for k, y := range c.L {
		r.cover(x, y, c.At[k], from)
	}
	return x
}

// cover writes the samples of a clip that begins at at over those in x, which begin at from, and returns its length.
func (r reader) cover(x []int, c api.Clip, at, from int) int {
	n := r.length(c)
	first, end := max(at, from), min(at+n, from+len(x))
	if first < end {
		copy(x[first-from:], r.samples(c, first-at, end-first))
	}
	return n
}
