package ranges

import (
	"math/rand"
	"testing"

	"soundpost/api"
	"soundpost/names"
	"soundpost/syntax"
)

func resolve(t *testing.T, body string) api.Proc {
	t.Helper()
	l, at, e := syntax.Parse("processor p latency 0 tail 0 { " + body + " }")
	if e != api.OK {
		t.Fatal(body, at, e)
	}
	p, e := names.Resolve(l[0])
	if e != api.OK {
		t.Fatal(body, e)
	}
	return p
}

func TestCheck(t *testing.T) {
	for body, want := range map[string]api.Errno{
		"out 5;": api.OK, "out in(-1);": api.ErrRange, "state s from 0 to 9; set s = s + 1; out s;": api.ErrRange, "state s from 0 to 9; set s = min(s + 1, 9); out s;": api.OK,
		"param p from -1 to 1; out p * 2147483648 * 2147483648;": api.ErrRange, "param p from -2 to 1; out p * 2147483648 * 2147483648;": api.ErrOverflow,
		"out in(0) + in(0);": api.ErrRange, "out sat(in(0) + in(0));": api.OK, "out in(4096);": api.OK, "out in(4097);": api.ErrRange, "out side(in(0));": api.ErrRange, "out in(max(0, min(in(0), 9)));": api.OK,
		"line d 2 from 5 to 9; push d = 4; out 1;": api.ErrRange, "line d 2 from 5 to 9; push d = 6; out tap(d, -7);": api.OK, "out 2147483647;": api.OK, "out 2147483648;": api.ErrRange, "out -2147483648;": api.OK,
		"let a = 2147483648 * 2147483648; let b = a + a - a; out 1;": api.ErrOverflow, "let a = 2147483648 * 2147483648; out sat(-a - a + a);": api.ErrOverflow, "let a = 2147483648 * 2147483648; out sat(a * a / 2);": api.ErrOverflow,
		"let a = 2147483648 * 2147483648; out (a + 0) / 2147483648 / 2;": api.OK, "let a = in(0) + in(0); out a / 2;": api.OK, "let a = 2147483648 * 2147483648; let b = a - 1 + 1; out in(0 - a - a);": api.ErrOverflow,
		"let a = in(9999) + 2147483648 * 2147483648 * 2; out 1;": api.ErrRange,
	} {
		p := resolve(t, body)
		l, e := Bounds(p)
		if Check(p) != want || e != want || e != api.OK && l != nil {
			t.Error(body, Check(p), e)
		}
	}
	if Check(api.Proc{Name: "p"}) != api.ErrName {
		t.Error("without out")
	}
	l, _, _ := syntax.Parse("processor p latency 0 tail 0 { let a = 1; out a; }")
	if Check(l[0]) != api.ErrName {
		t.Error("not resolved")
	}
	if _, _, e := Interval(l[0], api.Expr{}); e != api.ErrName {
		t.Error("not resolved", e)
	}
}

func TestInterval(t *testing.T) {
	decls := "param p from -3 to 5; state s from 2 to 7; line d 4 from 3 to 9; line u 4 from -9 to -3; table t = 4, -1, 8; "
	for x, want := range map[string]interval{
		"p * p": {-15, 25}, "-p": {-5, 3}, "abs(p)": {0, 5}, "abs(s)": {2, 7}, "abs(-s)": {2, 7}, "p + s": {-1, 12}, "p - s": {-10, 3}, "min(p, s)": {-3, 5}, "max(p, s)": {2, 7},
		"tap(d, 1)": {0, 9}, "tap(u, p)": {-9, 0}, "look(t, 1)": {-1, 8}, "sat(p * 2147483648)": {-1 << 31, 1<<31 - 1}, "p / 2": {-2, 2}, "if p < s then p else s": {-3, 7}, "in(0)": {-1 << 31, 1<<31 - 1},
		"x + 1": {-2, 6}, "p * (-2)": {-10, 6}, "12": {12, 12}, "sat(p)": {-3, 5}, "(-p) * s": {-35, 21},
	} {
		p := resolve(t, decls+"let x = p; let y = "+x+"; out 1;")
		l, e := Bounds(p)
		if e != api.OK || l[1] != want {
			t.Error(x, l, e)
		}
		lo, hi, e := Interval(p, p.Stmts[1].X)
		if e != api.OK || lo != want[0] || hi != want[1] {
			t.Error(x, lo, hi, e)
		}
	}
}

func TestFits(t *testing.T) {
	p := resolve(t, "param q from 0 to 1; state s from 0 to 1; line d 1 from 0 to 1; table t = 1; let x = 1; out 1;")
	num := api.Expr{Kind: api.NumE}
	one := []api.Expr{num}
	for i, x := range []api.Expr{
		{}, {Kind: 20}, {Kind: api.NameE, Name: "x"}, {Kind: api.NumE, N: -1}, {Kind: api.NumE, N: 1<<31 + 1}, {Kind: api.NumE, L: one}, {Kind: api.ParamE, Index: 1}, {Kind: api.StateE, Index: -1},
		{Kind: api.LetE, Index: 1}, {Kind: api.LetE, Index: 2}, {Kind: api.TapE, Index: 1, L: one}, {Kind: api.LookE, Index: 1, L: one}, {Kind: api.DivE, L: one}, {Kind: api.DivE, N: 1<<31 + 1, L: one},
		{Kind: api.AddE, L: one}, {Kind: api.IfE, L: one}, {Kind: api.NegE, L: []api.Expr{{}}},
	} {
		if lo, hi, e := Interval(p, x); e != api.ErrName || lo != 0 || hi != 0 {
			t.Error(i, e)
		}
	}
	big := num
	for range 511 {
		big = api.Expr{Kind: api.NegE, L: []api.Expr{big}}
	}
	if _, _, e := Interval(p, big); e != api.OK {
		t.Error(e)
	}
	if _, _, e := Interval(p, api.Expr{Kind: api.NegE, L: []api.Expr{big}}); e != api.ErrName {
		t.Error(e)
	}
	wide := api.Expr{Kind: api.MulE, L: []api.Expr{{Kind: api.NumE, N: 1 << 31}, {Kind: api.NumE, N: 1 << 31}}}
	for i, x := range []struct {
		x    api.Expr
		want api.Errno
	}{
		{wide, api.OK}, {api.Expr{Kind: api.AddE, L: []api.Expr{wide, wide}}, api.ErrOverflow}, {api.Expr{Kind: api.InE, L: []api.Expr{{Kind: api.NumE, N: 4097}}}, api.ErrRange},
		{api.Expr{Kind: api.LetE, Index: 0, Name: "other", N: 3}, api.OK},
	} {
		if _, _, e := Interval(p, x.x); e != x.want {
			t.Error(i, e)
		}
	}
	bad := resolve(t, "let y = in(0); out y + y;")
	if _, _, e := Interval(bad, num); e != api.ErrRange {
		t.Error(e)
	}
}

// eval evaluates an expression without inputs, lines and lets; ok is false beyond 2^62.
func eval(x api.Expr, params []int) int {
	v := make([]int, len(x.L))
	for i, y := range x.L {
		v[i] = eval(y, params)
	}
	switch x.Kind {
	case api.NumE:
		return x.N
	case api.ParamE:
		return params[x.Index]
	case api.SatE:
		return max(-1<<31, min(v[0], 1<<31-1))
	case api.MinE:
		return min(v[0], v[1])
	case api.MaxE:
		return max(v[0], v[1])
	case api.AbsE:
		return max(v[0], -v[0])
	case api.NegE:
		return -v[0]
	case api.AddE:
		return v[0] + v[1]
	case api.SubE:
		return v[0] - v[1]
	case api.MulE:
		return v[0] * v[1]
	case api.DivE:
		q := v[0] / x.N
		if v[0]%x.N < 0 {
			q--
		}
		return q
	}
	if v[0] < v[1] {
		return v[2]
	}
	return v[3]
}

func random(r *rand.Rand, depth int) api.Expr {
	if depth == 0 {
		if r.Intn(3) == 0 {
			return api.Expr{Kind: api.NumE, N: r.Intn(5)}
		}
		return api.Expr{Kind: api.ParamE, Index: r.Intn(2)}
	}
	x := api.Expr{Kind: api.SatE + r.Intn(10)}
	n := map[int]int{api.SatE: 1, api.AbsE: 1, api.NegE: 1, api.DivE: 1, api.IfE: 4}[x.Kind]
	if n == 0 {
		n = 2
	}
	if x.Kind == api.DivE {
		x.N = 1 + r.Intn(4)
	}
	for range n {
		x.L = append(x.L, random(r, depth-1))
	}
	return x
}

func TestSound(t *testing.T) {
	p := resolve(t, "param a from -7 to 3; param b from 2 to 11; out 1;")
	r := rand.New(rand.NewSource(1))
	for range 400 {
		x := random(r, 3)
		lo, hi, e := Interval(p, x)
		if e != api.OK {
			continue
		}
		for range 40 {
			params := []int{r.Intn(11) - 7, 2 + r.Intn(10)}
			if v := eval(x, params); v < lo || v > hi {
				t.Fatal(x, params, v, lo, hi)
			}
		}
	}
}
