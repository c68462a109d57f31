package machine

import (
	"slices"
	"testing"

	"soundpost/api"
	"soundpost/fixtures"
	"soundpost/lower"
	"soundpost/meaning"
)

func same(a, b api.State) bool {
	return slices.Equal(a.Values, b.Values) && slices.EqualFunc(a.Lines, b.Lines, slices.Equal[[]int])
}

func code(l ...api.Instr) api.Code { return api.Code{Instrs: l} }

func op(op, a int) api.Instr { return api.Instr{Op: op, A: a} }

func TestStep(t *testing.T) {
	max := 1 << 62
	for i, x := range []struct {
		c    api.Code
		want int
	}{
		{code(op(api.ConstI, max), op(api.ConstI, 1), op(api.AddI, 0), op(api.OutI, 0)), 1<<31 - 1},
		{code(op(api.ConstI, max), op(api.ConstI, max), op(api.AddI, 0), op(api.ConstI, max), op(api.SubI, 0), op(api.OutI, 0)), 0},
		{code(op(api.ConstI, max), op(api.ConstI, -max), op(api.SubI, 0), op(api.ConstI, max), op(api.SubI, 0), op(api.OutI, 0)), 0},
		{code(op(api.ConstI, max), op(api.ConstI, -9), op(api.MulI, 0), op(api.ConstI, max), op(api.AddI, 0), op(api.OutI, 0)), 0},
		{code(op(api.ConstI, 0), op(api.InI, 0), op(api.OutI, 0)), 7}, {code(op(api.ConstI, 99), op(api.SideI, 0), op(api.OutI, 0)), 8}, {code(op(api.ConstI, -99), op(api.SideI, 0), op(api.OutI, 0)), 8},
		{code(op(api.ConstI, -7), op(api.DivI, 2), op(api.OutI, 0)), -4}, {code(op(api.ConstI, 1), op(api.ConstI, 2), op(api.ConstI, 3), op(api.ConstI, 4), op(api.ChooseI, 0), op(api.OutI, 0)), 3},
		{code(op(api.ConstI, 2), op(api.ConstI, 2), op(api.ConstI, 3), op(api.ConstI, 4), op(api.ChooseI, 0), op(api.OutI, 0)), 4}, {code(op(api.ConstI, 5), op(api.ConstI, 2), op(api.SubI, 0), op(api.NegI, 0), op(api.OutI, 0)), -3},
		{code(op(api.ConstI, -5), op(api.AbsI, 0), op(api.ConstI, 2), op(api.MinI, 0), op(api.ConstI, 3), op(api.MaxI, 0), op(api.OutI, 0)), 3},
	} {
		if o, s, e := Step(x.c, nil, []int{7}, []int{8}, api.State{}); e != api.OK || o != x.want || !same(s, api.State{}) {
			t.Error(i, o, s, e)
		}
	}
}

func TestHeld(t *testing.T) {
	c := code(op(api.ConstI, 100), op(api.SetI, 0), op(api.ConstI, -100), op(api.PushI, 0), op(api.ConstI, 0), op(api.TapI, 0), op(api.OutI, 0), op(api.ConstI, 4), op(api.SetI, 1))
	c.States, c.Lines = []api.Bound{{Lo: 0, Hi: 9}, {Lo: 5, Hi: 6}}, []api.Line{{Size: 2, Lo: -7, Hi: 7}}
	o, s, e := Step(c, nil, []int{0}, []int{0}, api.State{Values: []int{1, 5}, Lines: [][]int{{3, 4}}})
	if e != api.OK || o != 3 || !same(s, api.State{Values: []int{9, 5}, Lines: [][]int{{-7, 3}}}) {
		t.Error(o, s, e)
	}
	if s, e := Start(c); e != api.OK || !same(s, api.State{Values: []int{0, 5}, Lines: [][]int{{0, 0}}}) {
		t.Error(s, e)
	}
}

func TestErrors(t *testing.T) {
	if s, e := Start(api.Code{}); e != api.ErrProgram || s.Values != nil {
		t.Error(e)
	}
	if _, _, e := Step(api.Code{}, nil, nil, nil, api.State{}); e != api.ErrProgram {
		t.Error(e)
	}
	c := code(op(api.ConstI, 1), op(api.OutI, 0))
	c.Latency, c.Params, c.States, c.Lines = 1, []api.Bound{{Lo: 0, Hi: 5}}, []api.Bound{{Lo: 1, Hi: 2}}, []api.Line{{Size: 2, Lo: 4, Hi: 9}}
	ok := api.State{Values: []int{1}, Lines: [][]int{{0, 9}}}
	p, in := [][]int{{1}, {5}, {0}}, []int{0, 1, 2, 3}
	for i, x := range []struct {
		params   [][]int
		in, side []int
		n, fuel  int
		s        api.State
		want     api.Errno
	}{
		{p, in, in, 3, 6, ok, api.OK}, {p, in, in, 3, 5, ok, api.ErrFuel}, {p, in, in, 2, 6, ok, api.ErrArg}, {p, in[1:], in, 3, 6, ok, api.ErrArg}, {p, in, in[1:], 3, 6, ok, api.ErrArg}, {p, in, in, 3, -1, ok, api.ErrArg}, {p, in, in, 3, 1<<24 + 1, ok, api.ErrArg},
		{[][]int{{1}, {6}, {0}}, in, in, 3, 6, ok, api.ErrArg}, {[][]int{{1}, {}, {0}}, in, in, 3, 6, ok, api.ErrArg}, {p, in, []int{0, 0, 0, 1 << 31}, 3, 6, ok, api.ErrArg}, {nil, nil, nil, -1, 6, ok, api.ErrArg},
		{p, in, in, 3, 5, api.State{}, api.ErrState}, {p, in, in, 3, 6, api.State{Values: []int{3}, Lines: ok.Lines}, api.ErrState}, {p, in, in, 3, 6, api.State{Values: []int{1}, Lines: [][]int{{3, 9}}}, api.ErrState},
		{make([][]int, 65537), in, in, 65537, 6, ok, api.ErrArg}, {nil, in[:1], in[:1], 0, 6, ok, api.OK},
	} {
		out, s, left, e := Run(c, x.s, x.params, x.in, x.side, x.n, x.fuel)
		if e != x.want || e == api.OK && (len(out) != x.n || left != x.fuel-2*x.n || !same(s, ok)) || e != api.OK && (out != nil || s.Values != nil || left != 0) {
			t.Error(i, out, s, left, e)
		}
	}
}

// inputs returns n samples.
func inputs(r *fixtures.Random, n int) []int {
	l := make([]int, n)
	for i := range l {
		l[i] = r.Sample()
	}
	return l
}

// TestMeaning compares the machine with the meaning, sample by sample and in blocks.
func TestMeaning(t *testing.T) {
	r := &fixtures.Random{State: 7}
	for range 150 {
		p := r.Proc("p")
		c, e := lower.Compile(p)
		if e != api.OK {
			t.Fatal(e)
		}
		const n = 12
		in, side := inputs(r, n+p.Latency), inputs(r, n+p.Latency)
		params := make([][]int, n)
		for i := range params {
			params[i] = []int{r.Intn(70006) - 5, r.Intn(4)}
		}
		s, _ := meaning.Start(p)
		if m, _ := Start(c); !same(m, s) {
			t.Fatal("start")
		}
		start := s
		var want []int
		for i := range n {
			o, x, e := meaning.Step(p, params[i], in[i:i+p.Latency+1], side[i:i+p.Latency+1], s)
			u, y, f := Step(c, params[i], in[i:i+p.Latency+1], side[i:i+p.Latency+1], s)
			if e != api.OK || f != api.OK || o != u || !same(x, y) {
				t.Fatal(p, o, u, x, y, e, f)
			}
			want, s = append(want, o), x
		}
		k := r.Intn(n + 1)
		a, x, _, _ := Run(c, start, params[:k], in[:k+p.Latency], side[:k+p.Latency], k, 1<<24)
		b, y, _, e := Run(c, x, params[k:], in[k:], side[k:], n-k, 1<<24)
		if e != api.OK || !slices.Equal(append(a, b...), want) || !same(y, s) {
			t.Fatal("blocks")
		}
	}
}

// TestDeep compares expressions for which the compiler needs registers.
func TestDeep(t *testing.T) {
	x := api.Expr{Kind: api.InE, L: []api.Expr{{Kind: api.NumE}}}
	for i := range 120 {
		a := api.Expr{Kind: api.NumE, N: i}
		switch i % 3 {
		case 0:
			x = api.Expr{Kind: api.SatE, L: []api.Expr{{Kind: api.SubE, L: []api.Expr{a, x}}}}
		case 1:
			x = api.Expr{Kind: api.IfE, L: []api.Expr{a, a, a, x}}
		case 2:
			x = api.Expr{Kind: api.MaxE, L: []api.Expr{{Kind: api.NegE, L: []api.Expr{a}}, x}}
		}
	}
	p := api.Proc{Name: "p", Stmts: []api.Stmt{{Kind: api.LetT, Name: "a", X: x}, {Kind: api.OutT, X: api.Expr{Kind: api.SatE, L: []api.Expr{{Kind: api.LetE, Name: "a"}}}}}}
	c, e := lower.Compile(p)
	if e != api.OK {
		t.Fatal(e)
	}
	if c.Regs < 2 {
		t.Error("no registers are needed")
	}
	for _, v := range []int{0, 5, -77, 1<<31 - 1, -1 << 31} {
		o, _, _ := meaning.Step(p, nil, []int{v}, []int{0}, api.State{})
		if u, _, e := Step(c, nil, []int{v}, []int{0}, api.State{}); e != api.OK || u != o {
			t.Error(v, o, u, e)
		}
	}
}
