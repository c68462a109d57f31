package names

import (
	"slices"
	"strings"
	"testing"

	"soundpost/api"
	"soundpost/syntax"
)

func parse(t *testing.T, body string) api.Proc {
	t.Helper()
	l, at, e := syntax.Parse("processor p latency 0 tail 0 { " + body + " }")
	if e != api.OK {
		t.Fatal(body, at, e)
	}
	return l[0]
}

const all = "param a from 0 to 1; state s from 0 to 1; state r from 0 to 1; line c 1 from 0 to 0; line d 2 from 0 to 1; table t = 1; let x = s; set r = a + x; push d = tap(d, look(t, r)); out min(x, a);"

func TestResolve(t *testing.T) {
	p := parse(t, all)
	x, e := Resolve(p)
	if e != api.OK {
		t.Fatal(e)
	}
	st := x.Stmts
	if st[0].X.Kind != api.StateE || st[0].X.Index != 0 || st[1].Index != 1 || st[1].X.L[0].Kind != api.ParamE || st[1].X.L[1].Kind != api.LetE || st[1].X.L[1].Index != 0 ||
		st[2].Index != 1 || st[2].X.Index != 1 || st[2].X.L[0].Kind != api.LookE || st[2].X.L[0].Index != 0 || st[2].X.L[0].L[0].Index != 1 || st[0].Index != 0 {
		t.Error(x)
	}
	if y, e := Resolve(x); e != api.OK || !syntax.Same(x, y) {
		t.Error("again", e)
	}
	messy := x
	messy.Stmts = slices.Clone(st)
	messy.Stmts[0].Index, messy.Stmts[3].Index = 7, -3
	messy.Stmts[0].X = api.Expr{Kind: api.LetE, Name: "s", Index: 99}
	if y, e := Resolve(messy); e != api.OK || !syntax.Same(x, y) {
		t.Error("messy", e)
	}
	if p.Stmts[1].Index != 0 || p.Stmts[1].X.L[0].Kind != api.NameE {
		t.Error("the argument is changed")
	}
	src, _ := syntax.Print([]api.Proc{x})
	l, _, _ := syntax.Parse(src)
	if y, e := Resolve(l[0]); e != api.OK || !syntax.Same(x, y) {
		t.Error("printed", e)
	}
}

func TestErrors(t *testing.T) {
	if _, e := Resolve(api.Proc{}); e != api.ErrName {
		t.Error(e)
	}
	for body, want := range map[string]api.Errno{
		"out 1;": api.OK, "out a;": api.ErrName, "let a = a; out a;": api.ErrName, "out 1; out 2;": api.ErrTwice, "param a from 2 to 1; out 1;": api.ErrRange,
		"": api.ErrName, "let x = 1;": api.ErrName, "set x = 1; out 1;": api.ErrName, "param x from 0 to 1; set x = 1; out 1;": api.ErrName, "let x = 1; set x = 2; out 1;": api.ErrName,
		"state x from 0 to 1; push x = 1; out 1;": api.ErrName, "line x 1 from 0 to 1; out x;": api.ErrName, "line x 1 from 0 to 1; out look(x, 1);": api.ErrName, "table x = 1; out tap(x, 1);": api.ErrName,
		"state s from 0 to 1; set s = 1; set s = 1; out 1;": api.ErrTwice, "line d 1 from 0 to 1; push d = 1; push d = 1; out 1;": api.ErrTwice, "let x = 1; let x = 2; out 1;": api.ErrTwice,
		"param a from 0 to 1; table a = 1; out 1;": api.ErrTwice, "line d 0 from 0 to 1; out 1;": api.ErrLimit, "line d 65537 from 0 to 1; out 1;": api.ErrLimit, "out 1; let a = 1;": api.ErrTwice, "out 1; let a = b;": api.ErrName,
		"table t = 2147483648; out 1;": api.ErrRange, "table t = -2147483648; out 1;": api.OK, "state s from 0 to 2147483648; out 1;": api.ErrRange, "line p 1 from 0 to 0; out tap(p, 0);": api.OK,
		"let a = 1; let b = a; out b;": api.OK, "line d 1 from 1 to 0; out q;": api.ErrRange, "set q = 1; out 1; out 2;": api.ErrName,
	} {
		x, e := Resolve(parse(t, body))
		if e != want || e != api.OK && !syntax.Same(x, api.Proc{}) {
			t.Error(body, e)
		}
	}
}

func TestForm(t *testing.T) {
	num := api.Expr{Kind: api.NumE, N: 1}
	big := num
	for range 8 {
		big = api.Expr{Kind: api.AddE, L: []api.Expr{big, big}}
	}
	for i, x := range []struct {
		f    func(*api.Proc)
		want api.Errno
	}{
		{func(p *api.Proc) { p.Stmts[0].Kind = 0 }, api.ErrArg}, {func(p *api.Proc) { p.Stmts[0].Name = "x" }, api.ErrArg}, {func(p *api.Proc) { p.Stmts[0].X.N = -1 }, api.ErrArg},
		{func(p *api.Proc) { p.Stmts[0].X.Name = "x" }, api.ErrArg}, {func(p *api.Proc) { p.Stmts[0].X.L = []api.Expr{num} }, api.ErrArg}, {func(p *api.Proc) { p.Stmts[0].X.Kind = 20 }, api.ErrArg},
		{func(p *api.Proc) { p.Stmts[0].X = api.Expr{Kind: api.NegE, N: 1, L: []api.Expr{num}} }, api.ErrArg}, {func(p *api.Proc) { p.Stmts[0].X = api.Expr{Kind: api.DivE, N: -1, L: []api.Expr{num}} }, api.ErrArg},
		{func(p *api.Proc) { p.Stmts[0].X = api.Expr{Kind: api.DivE, N: 0, L: []api.Expr{num}} }, api.ErrRange}, {func(p *api.Proc) { p.Stmts[0].X.N = 1<<31 + 1 }, api.ErrRange}, {func(p *api.Proc) { p.Stmts[0].X.N = 1 << 31 }, api.OK},
		{func(p *api.Proc) { p.Latency = 4097 }, api.ErrLimit}, {func(p *api.Proc) { p.Latency = -1 }, api.ErrLimit}, {func(p *api.Proc) { p.Tail = -2 }, api.ErrLimit}, {func(p *api.Proc) { p.Tail = 1<<20 + 1 }, api.ErrLimit},
		{func(p *api.Proc) { p.Params = make([]api.Bound, 17) }, api.ErrLimit}, {func(p *api.Proc) { p.Tables = []api.Table{{Name: "t"}} }, api.ErrLimit}, {func(p *api.Proc) { p.Tables = []api.Table{{Name: "t", Values: make([]int, 1025)}} }, api.ErrLimit},
		{func(p *api.Proc) { p.Stmts = slices.Repeat(p.Stmts, 65) }, api.ErrLimit}, {func(p *api.Proc) { p.Stmts[0].X = big }, api.OK},
		{func(p *api.Proc) { p.Stmts[0].X = api.Expr{Kind: api.AddE, L: []api.Expr{big, num}} }, api.ErrLimit}, {func(p *api.Proc) { p.Name = "in" }, api.ErrName}, {func(p *api.Proc) { p.Name = strings.Repeat("a", 33) }, api.ErrName},
		{func(p *api.Proc) { p.Params = []api.Bound{{Name: "out"}} }, api.ErrName}, {func(p *api.Proc) { p.Params = []api.Bound{{Name: "b"}, {Name: "b"}, {Name: "1"}} }, api.ErrName},
	} {
		p := api.Proc{Name: "p", Stmts: []api.Stmt{{Kind: api.OutT, X: num}}}
		x.f(&p)
		if _, e := Resolve(p); e != x.want {
			t.Error(i, e)
		}
	}
}

func TestGreatest(t *testing.T) {
	x := api.Expr{Kind: api.NumE}
	for range 511 {
		x = api.Expr{Kind: api.NegE, L: []api.Expr{x}}
	}
	p := api.Proc{Name: "p", Latency: 4096, Tail: -1}
	for i := range 16 {
		n := string(rune('a' + i))
		p.Params = append(p.Params, api.Bound{Name: "p" + n})
		p.States = append(p.States, api.Bound{Name: "s" + n})
		p.Lines = append(p.Lines, api.Line{Name: "l" + n, Size: 65536})
		p.Tables = append(p.Tables, api.Table{Name: "tt" + n, Values: make([]int, 1024)})
	}
	for i := range 63 {
		p.Stmts = append(p.Stmts, api.Stmt{Kind: api.LetT, Name: "n" + strings.Repeat("x", i%30) + string(rune('a'+i/30)), X: x})
	}
	p.Stmts = append(p.Stmts, api.Stmt{Kind: api.OutT, X: api.Expr{Kind: api.DivE, N: 1, L: []api.Expr{{Kind: api.NumE}}}})
	if _, e := Resolve(p); e != api.OK {
		t.Error(e)
	}
	p.Tail = 1 << 20
	if _, e := Resolve(p); e != api.OK {
		t.Error(e)
	}
}
