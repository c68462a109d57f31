package fixed

import (
	"math"
	"math/big"
	"math/rand"
	"testing"

	"soundpost/api"
)

func TestNumbers(t *testing.T) {
	for i, x := range [][2]int{
		{Clip(1 << 31), 1<<31 - 1}, {Clip(-1<<31 - 1), -1 << 31}, {Clip(5), 5}, {Clip(math.MinInt), -1 << 31},
		{Add(-1<<31, -1), -1 << 31}, {Add(math.MaxInt, math.MaxInt), 1<<31 - 1}, {Add(math.MinInt, math.MinInt), -1 << 31},
		{Add(math.MaxInt, math.MinInt), -1}, {Add(math.MinInt, math.MaxInt), -1}, {Add(1<<40, -1<<40+3), 3}, {Add(0, math.MinInt), -1 << 31},
		{Mul(7, 65536), 7}, {Mul(-1, 1), -1}, {Mul(-3, 32768), -2}, {Mul(1<<40, 1<<40), 1<<31 - 1}, {Mul(math.MinInt, math.MaxInt), -1 << 31},
		{Mul(123, 0), 0}, {Mix(nil), 0}, {Mix([]int{1<<31 - 1, 1, -1}), 1<<31 - 1}, {Mix([]int{math.MaxInt, math.MaxInt, -1 << 31, -1 << 31}), -2},
		{Mix([]int{1 << 40, -5}), 1<<31 - 6},
	} {
		if x[0] != x[1] {
			t.Error(i, x)
		}
	}
}

func TestLine(t *testing.T) {
	type args struct{ a, b, num, den, wa, wb, line, bend int }
	for i, x := range []args{
		{0, 100, 1, 3, 1, 1, 33, 33}, {100, 0, 1, 3, 1, 1, 66, 66}, {0, 100, 1, 2, 1, 3, 50, 75}, {0, -1, 1, 2, 1, 1, -1, -1},
		{math.MinInt, math.MaxInt, 0, 1, 16, 1, -1 << 31, -1 << 31}, {math.MinInt, math.MaxInt, 1 << 24, 1 << 24, 16, 1, 1<<31 - 1, 1<<31 - 1},
	} {
		y, e := Line(x.a, x.b, x.num, x.den)
		z, f := Bend(x.a, x.b, x.num, x.den, x.wa, x.wb)
		if e != api.OK || f != api.OK || y != x.line || z != x.bend {
			t.Error(i, y, z)
		}
	}
	for i, x := range []args{
		{5, 5, 0, 0, 1, 1, 0, 0}, {0, 0, -1, 1, 1, 1, 0, 0}, {0, 0, 2, 1, 1, 1, 0, 0}, {0, 0, 0, 1<<24 + 1, 1, 1, 0, 0}, {0, 0, 0, math.MinInt, 1, 1, 0, 0},
	} {
		y, e := Line(x.a, x.b, x.num, x.den)
		z, f := Bend(x.a, x.b, x.num, x.den, x.wa, x.wb)
		if e != api.ErrArg || f != api.ErrArg || y != 0 || z != 0 {
			t.Error(i)
		}
	}
	for _, w := range [][2]int{{0, 1}, {1, 0}, {17, 1}, {1, 17}} {
		if y, e := Bend(1, 1, 1, 1, w[0], w[1]); e != api.ErrArg || y != 0 {
			t.Error(w)
		}
	}
}

func floor(n, d *big.Int) int {
	q, m := new(big.Int).DivMod(n, d, new(big.Int))
	_ = m
	return int(q.Int64())
}

func TestBendExact(t *testing.T) {
	r := rand.New(rand.NewSource(1))
	for range 2000 {
		a, b := int(int32(r.Uint32())), int(int32(r.Uint32()))
		den := 1 + r.Intn(1<<24)
		num, wa, wb := r.Intn(den+1), 1+r.Intn(16), 1+r.Intn(16)
		from, to := int64(wa*(den-num)), int64(wb*num)
		sum := new(big.Int).Mul(big.NewInt(int64(a)), big.NewInt(from))
		sum.Add(sum, new(big.Int).Mul(big.NewInt(int64(b)), big.NewInt(to)))
		if y, _ := Bend(a, b, num, den, wa, wb); y != floor(sum, big.NewInt(from+to)) {
			t.Fatal(a, b, num, den, wa, wb, y)
		}
		y, _ := Line(a, b, num, den)
		if z, _ := Bend(a, b, num, den, wa, wa); z != y {
			t.Fatal("equal weights", y, z)
		}
		if y < min(a, b) || y > max(a, b) {
			t.Fatal("beyond the ends")
		}
	}
}
