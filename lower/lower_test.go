package lower

import (
	"slices"
	"strings"
	"testing"

	"soundpost/api"
	"soundpost/fixtures"
)

func code(l ...api.Instr) api.Code { return api.Code{Instrs: l} }

func i(op, a int) api.Instr { return api.Instr{Op: op, A: a} }

func TestCheck(t *testing.T) {
	one, out := i(api.ConstI, 1), i(api.OutI, 0)
	decl := func(f func(*api.Code)) api.Code {
		c := api.Code{Regs: 1, Params: make([]api.Bound, 1), States: make([]api.Bound, 1), Lines: []api.Line{{Size: 1}}, Tables: [][]int{{1}}, Instrs: []api.Instr{one, out}}
		f(&c)
		return c
	}
	with := func(l ...api.Instr) api.Code {
		return decl(func(c *api.Code) { c.Instrs = append(l, one, out) })
	}
	for k, x := range []struct {
		c    api.Code
		want api.Errno
	}{
		{api.Code{}, api.ErrProgram}, {code(one, i(api.ConstI, 2), i(api.AddI, 0), out), api.OK}, {code(one, out, one, out), api.ErrProgram}, {code(one, i(api.DivI, 0), out), api.ErrProgram},
		{code(i(api.ConstI, 0), i(api.InI, 0), out), api.OK}, {code(one, out), api.OK}, {code(one), api.ErrProgram}, {code(out), api.ErrProgram}, {code(one, one, out), api.ErrProgram},
		{code(one, i(api.DivI, 1<<31), out), api.OK}, {code(one, i(api.DivI, 1<<31+1), out), api.ErrProgram}, {code(i(api.ConstI, 1<<62), out), api.OK}, {code(i(api.ConstI, 1<<62+1), out), api.ErrProgram},
		{code(i(api.ConstI, -1<<62-1), out), api.ErrProgram}, {code(i(0, 0), one, out), api.ErrProgram}, {code(i(23, 0), one, out), api.ErrProgram}, {code(one, i(api.OutI, 1)), api.ErrProgram}, {code(one, i(api.NegI, 1), out), api.ErrProgram},
		{decl(func(c *api.Code) {}), api.OK}, {decl(func(c *api.Code) { c.Latency = 4097 }), api.ErrProgram}, {decl(func(c *api.Code) { c.Latency = -1 }), api.ErrProgram}, {decl(func(c *api.Code) { c.Tail = -2 }), api.ErrProgram},
		{decl(func(c *api.Code) { c.Tail = 1<<20 + 1 }), api.ErrProgram}, {decl(func(c *api.Code) { c.Regs = -1 }), api.ErrProgram}, {decl(func(c *api.Code) { c.Regs = 65537 }), api.ErrProgram}, {decl(func(c *api.Code) { c.Regs = 65536 }), api.OK},
		{decl(func(c *api.Code) { c.Params = make([]api.Bound, 17) }), api.ErrProgram}, {decl(func(c *api.Code) { c.States[0].Lo = 1 }), api.ErrProgram}, {decl(func(c *api.Code) { c.Params[0].Hi = 1 << 31 }), api.ErrProgram},
		{decl(func(c *api.Code) { c.Lines[0].Size = 0 }), api.ErrProgram}, {decl(func(c *api.Code) { c.Lines[0].Size = 65537 }), api.ErrProgram}, {decl(func(c *api.Code) { c.Lines[0].Lo = 1 }), api.ErrProgram},
		{decl(func(c *api.Code) { c.Tables[0] = nil }), api.ErrProgram}, {decl(func(c *api.Code) { c.Tables[0] = make([]int, 1025) }), api.ErrProgram}, {decl(func(c *api.Code) { c.Tables[0][0] = 1 << 31 }), api.ErrProgram},
		{with(one, i(api.StoreI, 0), i(api.FetchI, 0), i(api.SetI, 0), i(api.ParamI, 0), i(api.PushI, 0)), api.OK}, {with(one, i(api.StoreI, 1)), api.ErrProgram}, {with(i(api.FetchI, 1), i(api.SetI, 0)), api.ErrProgram},
		{with(one, i(api.SetI, 1)), api.ErrProgram}, {with(one, i(api.PushI, 1)), api.ErrProgram}, {with(one, i(api.PushI, 0), one, i(api.PushI, 0)), api.ErrProgram}, {with(one, i(api.SetI, 0), one, i(api.SetI, 0)), api.OK},
		{with(one, i(api.TapI, 0), i(api.LookI, 0), i(api.SetI, 0)), api.OK}, {with(one, i(api.TapI, 1), i(api.SetI, 0)), api.ErrProgram}, {with(one, i(api.LookI, 1), i(api.SetI, 0)), api.ErrProgram}, {with(i(api.ParamI, 1), i(api.SetI, 0)), api.ErrProgram},
		{with(i(api.StateI, 1), i(api.SetI, 0)), api.ErrProgram}, {with(one, one, one, one, i(api.ChooseI, 0), i(api.SetI, 0)), api.OK}, {with(one, one, one, i(api.ChooseI, 0), i(api.SetI, 0)), api.ErrProgram},
		{api.Code{Instrs: slices.Concat(slices.Repeat([]api.Instr{one}, 64), slices.Repeat([]api.Instr{i(api.AddI, 0)}, 63), []api.Instr{out})}, api.OK},
		{api.Code{Instrs: slices.Concat(slices.Repeat([]api.Instr{one}, 65), slices.Repeat([]api.Instr{i(api.AddI, 0)}, 64), []api.Instr{out})}, api.ErrProgram},
		{api.Code{Instrs: append(slices.Repeat([]api.Instr{one, out}, 1), slices.Repeat([]api.Instr{one}, 65535)...)}, api.ErrProgram},
	} {
		if e := Check(x.c); e != x.want {
			t.Error(k, e)
		}
	}
}

func TestCompile(t *testing.T) {
	if c, e := Compile(api.Proc{}); e != api.ErrName || c.Instrs != nil {
		t.Error(e)
	}
	r := &fixtures.Random{State: 3}
	for range 100 {
		p := r.Proc("p")
		c, e := Compile(p)
		if e != api.OK || Check(c) != api.OK || c.Latency != p.Latency || c.Tail != p.Tail || !slices.Equal(c.Lines, p.Lines) || !slices.Equal(c.Tables[0], p.Tables[0].Values) {
			t.Fatal(p, c, e)
		}
	}
}

// TestDeep compiles expressions that need much of the stack in their order.
func TestDeep(t *testing.T) {
	deep := func(kind, n int) api.Expr {
		x := api.Expr{Kind: api.NumE, N: 1}
		for range n {
			a := api.Expr{Kind: api.NumE, N: 2}
			x = api.Expr{Kind: kind, L: map[int][]api.Expr{api.MaxE: {a, x}, api.IfE: {a, a, a, x}}[kind]}
		}
		return x
	}
	chain := deep(api.MaxE, 50)
	for k, x := range []api.Expr{deep(api.MaxE, 255), deep(api.IfE, 127), {Kind: api.IfE, L: []api.Expr{chain, chain, chain, chain}}} {
		p := api.Proc{Name: "p", Tail: -1}
		for j := range 63 {
			p.Stmts = append(p.Stmts, api.Stmt{Kind: api.LetT, Name: "n" + strings.Repeat("b", j/26) + string(rune('a'+j%26)), X: x})
		}
		p.Stmts = append(p.Stmts, api.Stmt{Kind: api.OutT, X: x})
		c, e := Compile(p)
		if e != api.OK || Check(c) != api.OK {
			t.Error(k, e, Check(c), len(c.Instrs))
		}
	}
}

func TestGreatest(t *testing.T) {
	one, out := i(api.ConstI, 1), i(api.OutI, 0)
	c := api.Code{Latency: 4096, Tail: 1 << 20, Params: make([]api.Bound, 16), States: make([]api.Bound, 16), Lines: slices.Repeat([]api.Line{{Size: 65536}}, 16), Tables: slices.Repeat([][]int{make([]int, 1024)}, 16)}
	c.Instrs = append(c.Instrs, one)
	for len(c.Instrs) < 65535 {
		c.Instrs = append(c.Instrs, i(api.NegI, 0))
	}
	c.Instrs = append(c.Instrs, out)
	if e := Check(c); e != api.OK {
		t.Error(e)
	}
	c.Tail = -1
	if e := Check(c); e != api.OK {
		t.Error(e)
	}
	c.Instrs = append([]api.Instr{one, i(api.SetI, 0)}, c.Instrs...)
	if e := Check(c); e != api.ErrProgram {
		t.Error(e)
	}
}
