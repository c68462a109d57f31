package rational

import (
	"math/big"
	"math/rand"
	"testing"

	"soundpost/api"
)

func TestMake(t *testing.T) {
	for i, x := range []struct {
		n, d int
		want api.Rat
		e    api.Errno
	}{
		{6, -4, api.Rat{N: -3, D: 2}, api.OK}, {1, 0, api.Rat{}, api.ErrArg}, {0, -7, api.Rat{N: 0, D: 1}, api.OK},
		{1, 1 << 31, api.Rat{}, api.ErrRat}, {1 << 31, 2, api.Rat{N: 1 << 30, D: 1}, api.OK}, {1 << 62, 1 << 62, api.Rat{N: 1, D: 1}, api.OK},
		{-1 << 62, -1 << 62, api.Rat{N: 1, D: 1}, api.OK}, {1<<62 + 1, 1, api.Rat{}, api.ErrArg}, {0, 1<<62 + 1, api.Rat{}, api.ErrArg},
		{-1<<62 - 1, 1, api.Rat{}, api.ErrArg}, {1 << 31, 1, api.Rat{}, api.ErrRat}, {-(1<<31 - 1), 1, api.Rat{N: -(1<<31 - 1), D: 1}, api.OK},
		{-1 << 31, 1, api.Rat{}, api.ErrRat}, {0, 1 << 62, api.Rat{D: 1}, api.OK}, {-1 << 63, 0, api.Rat{}, api.ErrArg},
	} {
		if r, e := Make(x.n, x.d); r != x.want || e != x.e {
			t.Error(i, r, e)
		}
	}
	for i, r := range []api.Rat{{}, {N: 2, D: 4}, {N: 0, D: 2}, {N: 1, D: -1}, {N: 1, D: 1 << 31}, {N: -1 << 31, D: 1}} {
		_, e1 := Add(r, api.Rat{D: 1})
		_, e2 := Mul(api.Rat{D: 1}, r)
		_, e3 := Inverse(r)
		_, e4 := Less(r, r)
		_, e5 := Floor(r)
		if Check(r) != api.ErrRat || e1 != api.ErrRat || e2 != api.ErrRat || e3 != api.ErrRat || e4 != api.ErrRat || e5 != api.ErrRat {
			t.Error(i)
		}
	}
}

func random(r *rand.Rand) api.Rat {
	for {
		x, e := Make(int(r.Int31())>>r.Intn(31)*(1-2*r.Intn(2)), 1+int(r.Int31()-1)>>r.Intn(31))
		if e == api.OK {
			return x
		}
	}
}

func exact(a api.Rat) *big.Rat { return big.NewRat(int64(a.N), int64(a.D)) }

func fits(b *big.Rat) bool {
	limit := big.NewInt(api.MaxRat)
	return b.Num().CmpAbs(limit) <= 0 && b.Denom().Cmp(limit) <= 0
}

func TestArithmetic(t *testing.T) {
	r := rand.New(rand.NewSource(1))
	for range 3000 {
		a, b := random(r), random(r)
		sum, e := Add(a, b)
		if want := new(big.Rat).Add(exact(a), exact(b)); fits(want) != (e == api.OK) || e == api.OK && exact(sum).Cmp(want) != 0 || e != api.OK && sum != (api.Rat{}) {
			t.Fatal(a, b, sum, e)
		}
		product, e := Mul(a, b)
		if want := new(big.Rat).Mul(exact(a), exact(b)); fits(want) != (e == api.OK) || e == api.OK && (exact(product).Cmp(want) != 0 || Check(product) != api.OK) {
			t.Fatal(a, b, product, e)
		}
		if less, _ := Less(a, b); less != (exact(a).Cmp(exact(b)) < 0) {
			t.Fatal(a, b)
		}
		n, _ := Floor(a)
		if low := big.NewRat(int64(n), 1); low.Cmp(exact(a)) > 0 || big.NewRat(int64(n+1), 1).Cmp(exact(a)) <= 0 {
			t.Fatal(a, n)
		}
		if x, e := Inverse(a); a.N != 0 {
			if one, _ := Mul(a, x); e != api.OK || one != (api.Rat{N: 1, D: 1}) {
				t.Fatal(a, x, e)
			}
		}
	}
	if _, e := Inverse(api.Rat{D: 1}); e != api.ErrArg {
		t.Error(e)
	}
	if n, _ := Floor(api.Rat{N: -3, D: 2}); n != -2 {
		t.Error(n)
	}
}
