package syntax

import (
	"math/rand"
	"strings"
	"testing"

	"soundpost/api"
	"soundpost/lex"
)

func parse(t *testing.T, src string) []api.Proc {
	t.Helper()
	l, at, e := Parse(src)
	if e != api.OK {
		t.Fatal(src, at, e)
	}
	return l
}

func body(s string) string { return "processor p latency 0 tail 0 { " + s + " }" }

func TestTrees(t *testing.T) {
	l := parse(t, "processor p latency 3 tail forever { param a from -1 to 2; state s from 0 to 0; line d 5 from -9 to 9; table t = 1, -2, 0; let x = in(1) - 2 - a / 3 * look(t, 0); set s = if a < 1 then -s else tap(d, 2); push d = sat(min(1, max(2, abs(side(0))))); out x; } processor q latency 0 tail 7 { }")
	num := func(n int) api.Expr { return api.Expr{Kind: api.NumE, N: n} }
	name := func(s string) api.Expr { return api.Expr{Kind: api.NameE, Name: s} }
	of := func(kind int, l ...api.Expr) api.Expr { return api.Expr{Kind: kind, L: l} }
	want := api.Proc{
		Name: "p", Latency: 3, Tail: -1, Params: []api.Bound{{Name: "a", Lo: -1, Hi: 2}}, States: []api.Bound{{Name: "s"}}, Lines: []api.Line{{Name: "d", Size: 5, Lo: -9, Hi: 9}}, Tables: []api.Table{{Name: "t", Values: []int{1, -2, 0}}},
		Stmts: []api.Stmt{
			{Kind: api.LetT, Name: "x", X: of(api.SubE, of(api.SubE, of(api.InE, num(1)), num(2)), of(api.MulE, api.Expr{Kind: api.DivE, N: 3, L: []api.Expr{name("a")}}, api.Expr{Kind: api.LookE, Name: "t", L: []api.Expr{num(0)}}))},
			{Kind: api.SetT, Name: "s", X: of(api.IfE, name("a"), num(1), of(api.NegE, name("s")), api.Expr{Kind: api.TapE, Name: "d", L: []api.Expr{num(2)}})},
			{Kind: api.PushT, Name: "d", X: of(api.SatE, of(api.MinE, num(1), of(api.MaxE, num(2), of(api.AbsE, of(api.SideE, num(0))))))},
			{Kind: api.OutT, X: name("x")},
		},
	}
	if len(l) != 2 || !Same(l[0], want) || !Same(l[1], api.Proc{Name: "q", Tail: 7}) {
		t.Error(l)
	}
	if l, _, e := Parse(" // nothing"); e != api.OK || len(l) != 0 {
		t.Error(e)
	}
}

func TestErrors(t *testing.T) {
	deep := body("out " + strings.Repeat("(", 63) + "1" + strings.Repeat(")", 63) + ";")
	deeper := body("out " + strings.Repeat("-", 63) + "(1);")
	for i, x := range []struct {
		src string
		at  int
		e   api.Errno
	}{
		{"processor in", 10, api.ErrSyntax}, {"processor p latency 0 tail forever { out 1 / 0 ; }", 45, api.ErrSyntax}, {"processor", 9, api.ErrSyntax}, {"processor  ", 11, api.ErrSyntax},
		{"x", 0, api.ErrSyntax}, {"processor p $", 12, api.ErrText}, {body("let a = 1"), 41, api.ErrSyntax}, {body("out 1; param a from 0 to 1;"), 38, api.ErrSyntax},
		{body("out 2147483648;"), 0, api.OK}, {body("out 2147483649;"), 35, api.ErrSyntax}, {body("out a < 1;"), 37, api.ErrSyntax}, {body("out if a then 1;"), 40, api.ErrSyntax},
		{body("out min(1);"), 40, api.ErrSyntax}, {body("out tap(1, 2);"), 39, api.ErrSyntax}, {body("param a from 0 - to 1;"), 46, api.ErrSyntax}, {body("out 1 + if 1 < 2 then 3 else 4;"), 39, api.ErrSyntax},
		{body("table t = ;"), 41, api.ErrSyntax}, {body("out ();"), 36, api.ErrSyntax}, {body("out -;"), 36, api.ErrSyntax}, {deep, 0, api.OK}, {deeper, 98, api.ErrSyntax}, {body("out " + strings.Repeat("-", 63) + "(a);"), 98, api.ErrSyntax},
		{body("out " + strings.Repeat("-", 63) + "a;"), 0, api.OK}, {body("out " + strings.Repeat("(", 63) + "if 1 < 2 then 3 else 4" + strings.Repeat(")", 63) + ";"), 0, api.OK},
		{"processor p latency forever", 20, api.ErrSyntax}, {strings.Repeat(" ", 65537), 0, api.ErrLimit}, {body("") + " }", 34, api.ErrSyntax}, {body("out 1 / 2147483648;"), 0, api.OK},
	} {
		if l, at, e := Parse(x.src); e != x.e || at != x.at || e != api.OK && l != nil {
			t.Error(i, at, e)
		}
	}
}

func TestPrint(t *testing.T) {
	for src, want := range map[string]string{
		"out (a - (b)) * -(2);":          "out ( a - b ) * - 2 ;",
		"out a - (b - c) + (d * e) / 2;": "out a - ( b - c ) + d * e / 2 ;",
		"out a * (b / 2) * (c * d);":     "out a * ( b / 2 ) * ( c * d ) ;",
		"out -(-(a)) - (-(b + c));":      "out - - a - - ( b + c ) ;",
		"out (if (a) < (if 1 < 2 then 3 else 4) then (if b < c then 1 else 2) else (5)) ;": "out if a < ( if 1 < 2 then 3 else 4 ) then if b < c then 1 else 2 else 5 ;",
		"out 1 + (if 1 < 2 then 3 else 4);":                                                "out 1 + ( if 1 < 2 then 3 else 4 ) ;",
		"table t = -0, 5; state s from -3 to 2; param p from 0 to 1; out tap(d, (1));":     "param p from 0 to 1 ; state s from - 3 to 2 ; table t = 0 , 5 ; out tap ( d , 1 ) ;",
	} {
		s, e := Print(parse(t, body(src)))
		if e != api.OK || s != body(want) {
			t.Error(s, e)
		}
	}
	if s, e := Print(nil); s != "" || e != api.OK {
		t.Error(s, e)
	}
}

func TestUnprintable(t *testing.T) {
	num := api.Expr{Kind: api.NumE}
	for i, f := range []func(*api.Proc){
		func(p *api.Proc) { p.Name = "" }, func(p *api.Proc) { p.Name = "in" }, func(p *api.Proc) { p.Latency = -1 }, func(p *api.Proc) { p.Latency = 1<<31 + 1 }, func(p *api.Proc) { p.Tail = -2 },
		func(p *api.Proc) { p.Params = []api.Bound{{}} }, func(p *api.Proc) { p.States = []api.Bound{{Name: "a", Lo: -1<<31 - 1}} }, func(p *api.Proc) { p.Lines = []api.Line{{Name: "a", Size: -1}} },
		func(p *api.Proc) { p.Tables = []api.Table{{Name: "a"}} }, func(p *api.Proc) { p.Tables = []api.Table{{Name: "a", Values: []int{1<<31 + 1}}} }, func(p *api.Proc) { p.Stmts[0].Kind = 5 },
		func(p *api.Proc) { p.Stmts[0].Name = "a" }, func(p *api.Proc) { p.Stmts[0].Kind = api.LetT }, func(p *api.Proc) { p.Stmts[0].X = api.Expr{} }, func(p *api.Proc) { p.Stmts[0].X.N = -1 },
		func(p *api.Proc) { p.Stmts[0].X.Name = "a" }, func(p *api.Proc) { p.Stmts[0].X.L = []api.Expr{num} }, func(p *api.Proc) { p.Stmts[0].X = api.Expr{Kind: api.NameE, Name: "a", N: 1} },
		func(p *api.Proc) { p.Stmts[0].X = api.Expr{Kind: api.DivE, L: []api.Expr{num}} }, func(p *api.Proc) { p.Stmts[0].X = api.Expr{Kind: api.TapE, L: []api.Expr{num}} }, func(p *api.Proc) { p.Stmts[0].X = api.Expr{Kind: 20} },
		func(p *api.Proc) { p.Stmts[0].X = api.Expr{Kind: api.AddE, L: []api.Expr{num}} }, func(p *api.Proc) { p.Stmts[0].X = api.Expr{Kind: api.AddE, Name: "a", L: []api.Expr{num, num}} },
		func(p *api.Proc) {
			for range 64 {
				p.Stmts[0].X = api.Expr{Kind: api.NegE, L: []api.Expr{p.Stmts[0].X}}
			}
		},
		func(p *api.Proc) {
			for range 64 {
				p.Stmts[0].X = api.Expr{Kind: api.SubE, L: []api.Expr{num, p.Stmts[0].X}}
			}
			p.Stmts[0].X = api.Expr{Kind: api.NegE, L: []api.Expr{p.Stmts[0].X}}
		},
	} {
		p := api.Proc{Name: "p", Stmts: []api.Stmt{{Kind: api.OutT, X: num}}}
		f(&p)
		if s, e := Print([]api.Proc{p}); e != api.ErrSyntax || s != "" {
			t.Error(i, s, e)
		}
	}
	p := api.Proc{Name: "p", Stmts: []api.Stmt{{Kind: api.OutT, Index: 9, X: api.Expr{Kind: api.LetE, Name: "a", Index: -4}}}}
	if s, e := Print([]api.Proc{p}); e != api.OK || s != body("out a ;") {
		t.Error(s, e)
	}
}

func random(r *rand.Rand, depth int) api.Expr {
	kinds := []int{api.InE, api.SideE, api.TapE, api.LookE, api.SatE, api.MinE, api.MaxE, api.AbsE, api.NegE, api.AddE, api.SubE, api.MulE, api.DivE, api.IfE}
	if depth == 0 || r.Intn(6) == 0 {
		if r.Intn(2) == 0 {
			return api.Expr{Kind: api.NumE, N: r.Intn(99)}
		}
		return api.Expr{Kind: api.NameE, Name: string(rune('a' + r.Intn(26)))}
	}
	x := api.Expr{Kind: kinds[r.Intn(len(kinds))]}
	n, named, _ := parts(x.Kind)
	if named {
		x.Name = "d"
	}
	if x.Kind == api.DivE {
		x.N = 1 + r.Intn(9)
	}
	for range n {
		x.L = append(x.L, random(r, depth-1))
	}
	return x
}

func TestRoundTrip(t *testing.T) {
	r := rand.New(rand.NewSource(1))
	for range 500 {
		p := api.Proc{Name: "p", Stmts: []api.Stmt{{Kind: api.LetT, Name: "x", X: random(r, 5)}, {Kind: api.OutT, X: random(r, 5)}}}
		s, e := Print([]api.Proc{p})
		if e != api.OK {
			t.Fatal(e)
		}
		l := parse(t, s)
		if len(l) != 1 || !Same(l[0], p) {
			t.Fatal(s)
		}
		if again, _ := Print(l); again != s {
			t.Fatal(again)
		}
		refuseNoneBefore(t, r, s)
	}
}

// refuseNoneBefore replaces one token: no token before it may be refused.
func refuseNoneBefore(t *testing.T, r *rand.Rand, s string) {
	tokens, _, _ := lex.Lex(s)
	i := r.Intn(len(tokens))
	tokens[i] = tokens[r.Intn(len(tokens))]
	src, _ := lex.Text(tokens)
	placed, _, _ := lex.Lex(src)
	if _, at, e := Parse(src); e == api.ErrSyntax && at < placed[i].At {
		t.Fatal(src, at)
	}
}

func TestSame(t *testing.T) {
	if !Same(api.Proc{}, api.Proc{Params: []api.Bound{}}) {
		t.Error("zero")
	}
	a := api.Proc{Stmts: []api.Stmt{{X: api.Expr{L: []api.Expr{{Kind: api.ParamE, Index: 1}}}}}}
	b := api.Proc{Stmts: []api.Stmt{{X: api.Expr{L: []api.Expr{{Kind: api.ParamE, Index: 2}}}}}}
	if Same(a, b) || !Same(a, a) || Same(a, api.Proc{}) {
		t.Error("index")
	}
}

// TestBeginnings parses all beginnings of a source: none of their tokens is refused.
func TestBeginnings(t *testing.T) {
	r := rand.New(rand.NewSource(3))
	for range 60 {
		decls := "param a from - 1 to 2 ; state s from 0 to 0 ; line d 5 from - 9 to 9 ; table t = 1 , - 2 , 0 ;"
		p := parse(t, body(decls))[0]
		p.Stmts = []api.Stmt{{Kind: api.LetT, Name: "x", X: random(r, 4)}, {Kind: api.SetT, Name: "s", X: random(r, 3)}, {Kind: api.PushT, Name: "d", X: random(r, 3)}, {Kind: api.OutT, X: random(r, 4)}}
		s, e := Print([]api.Proc{p, p})
		if e != api.OK {
			t.Fatal(e)
		}
		tokens, _, _ := lex.Lex(s)
		for i := range tokens {
			src, _ := lex.Text(tokens[:i])
			if _, at, e := Parse(src); e != api.OK && (e != api.ErrSyntax || at != len(src)) {
				t.Fatal(src, at, e)
			}
		}
	}
}

// TestDepth nests units as deeply as they may be, in all ways.
func TestDepth(t *testing.T) {
	for _, x := range [][2]string{{"(", ")"}, {"abs(", ")"}, {"min(1, ", ")"}, {"max(", ", 1)"}, {"tap(d, ", ")"}, {"-", ""}} {
		nest := func(n int) string {
			return body("out " + strings.Repeat(x[0], n) + "a" + strings.Repeat(x[1], n) + ";")
		}
		l := parse(t, nest(63))
		if _, e := Print(l); e != api.OK {
			t.Error(x, e)
		}
		if _, at, e := Parse(nest(64)); e != api.ErrSyntax || at != 35+63*len(x[0]) {
			t.Error(x, at, e)
		}
		if x[0] == "(" {
			continue
		}
		s := &l[0].Stmts[0].X
		*s = api.Expr{Kind: api.NegE, L: []api.Expr{*s}}
		if _, e := Print(l); e != api.ErrSyntax {
			t.Error(x, e)
		}
	}
	if Same(api.Proc{Tables: []api.Table{{Name: "a", Values: []int{1}}}}, api.Proc{Tables: []api.Table{{Name: "a", Values: []int{2}}}}) || Same(api.Proc{Tables: []api.Table{{Name: "a"}}}, api.Proc{Tables: []api.Table{{Name: "b"}}}) {
		t.Error("tables")
	}
}
