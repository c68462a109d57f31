package tails

import (
	"testing"

	"soundpost/api"
	"soundpost/names"
	"soundpost/syntax"
)

const decls = "param q from 0 to 7; state s from -2147483648 to 2147483647; state r from -2147483648 to 2147483647; line d 3 from -2147483648 to 2147483647; line c 10 from -2147483648 to 2147483647; table t = 1, 5; "

func resolve(t *testing.T, body string) api.Proc {
	t.Helper()
	l, at, e := syntax.Parse("processor p latency 0 tail 0 { " + decls + body + " }")
	if e != api.OK {
		t.Fatal(body, at, e)
	}
	p, e := names.Resolve(l[0])
	if e != api.OK {
		t.Fatal(body, e)
	}
	return p
}

func TestMemory(t *testing.T) {
	for body, want := range map[string]int{
		"out in(0);": 0, "set s = in(0); out s;": 0, "let a = s; set s = in(0); out a;": 1, "set s = sat(s + in(0)); out s;": -1, "set s = in(0); out 0;": 0,
		"push d = in(0); out tap(d, 0);": 3, "push c = in(0); out tap(c, 9);": 10, "out s;": 0, "out tap(d, 0);": 0, "push d = in(0); push c = tap(d, 0); out tap(c, 0);": 13,
		"push d = tap(c, 0); push c = tap(d, 0); out tap(c, 0);": -1, "push d = tap(d, 0); out in(0);": 0, "let a = r; set s = a; set r = in(0); let b = s; out b;": 1,
		"set s = r; set r = in(0); out s;": 1, "set s = r; set r = s; out s;": -1, "push d = in(0); out look(t, tap(d, 0));": 3, "push d = in(0); out tap(c, tap(d, 0));": 3,
		"set s = sat(s + 1); out if s < 0 then 1 else 2;": -1, "let a = s; let b = a; set s = in(0); out sat(b + a);": 1, "push d = q; set s = tap(d, 0); let x = s; out sat(x + r);": 3,
	} {
		p := resolve(t, body)
		n, e := Memory(p)
		if n != want || e != api.OK {
			t.Error(body, n, e)
		}
		if want >= 0 && Check(p) != map[bool]api.Errno{true: api.OK, false: api.ErrTail}[want == 0] {
			t.Error(body, Check(p))
		}
		p.Tail = max(want, 0)
		if c := Check(p); (c == api.OK) != (want >= 0) || c != api.OK && c != api.ErrTail {
			t.Error(body, c)
		}
		if p.Tail = want - 1; want > 0 && Check(p) != api.ErrTail {
			t.Error(body)
		}
		if p.Tail = -1; Check(p) != api.OK {
			t.Error(body)
		}
	}
}

func TestLatency(t *testing.T) {
	for body, want := range map[string]int{
		"out 1;": 0, "out in(0);": 0, "out in(7);": 7, "out side(4096);": 4096, "out in(q);": 7, "let a = in(q + 2); out in(3);": 9, "out in(look(t, 0));": 5, "let a = side(min(q, 3) * 4); out 1;": 12,
		"out in(max(0, min(in(40), 9)));": 40, "let a = q * q; out in(a);": 49,
	} {
		p := resolve(t, body)
		n, e := Latency(p)
		if n != want || e != api.OK {
			t.Error(body, n, e)
		}
		if p.Latency = want; Check(p) != api.OK {
			t.Error(body)
		}
		if p.Latency = want - 1; want > 0 && Check(p) != api.ErrLatency {
			t.Error(body)
		}
	}
}

func TestManyIndices(t *testing.T) {
	body := "out sat(in(q)"
	for range 100 {
		body += " + in(q + 0)"
	}
	if n, e := Latency(resolve(t, body+");")); n != 7 || e != api.OK {
		t.Error(n, e)
	}
}

// TestLargestIndex has an index of 511 nodes, and another one.
func TestLargestIndex(t *testing.T) {
	index := api.Expr{Kind: api.ParamE, Name: "q"}
	for range 510 {
		index = api.Expr{Kind: api.AbsE, L: []api.Expr{index}}
	}
	p := resolve(t, "let a = in(q - q / 1 + 7); out in(0);")
	p.Params[0].Hi = 9
	p.Stmts[0].X.L[0] = api.Expr{Kind: api.MaxE, L: []api.Expr{{Kind: api.NumE, N: 3}, {Kind: api.ParamE, Name: "q"}}}
	p.Stmts[1].X.L[0] = index
	if n, e := Latency(p); n != 9 || e != api.OK {
		t.Error(n, e)
	}
	p.Params[0].Hi = 4
	if n, e := Latency(p); n != 4 || e != api.OK {
		t.Error(n, e)
	}
}

func TestErrors(t *testing.T) {
	l, _, _ := syntax.Parse("processor p latency 0 tail 0 { let a = 1; out a; }")
	over := resolve(t, "out in(0) + in(0);")
	for i, x := range []struct {
		p    api.Proc
		want api.Errno
	}{{api.Proc{}, api.ErrName}, {l[0], api.ErrName}, {over, api.ErrRange}, {api.Proc{Latency: -1}, api.ErrLimit}, {api.Proc{Stmts: []api.Stmt{{}}}, api.ErrArg}} {
		n, e1 := Latency(x.p)
		m, e2 := Memory(x.p)
		if e1 != x.want || e2 != x.want || Check(x.p) != x.want || n != 0 || m != 0 {
			t.Error(i, e1, e2, Check(x.p))
		}
	}
	late := resolve(t, "set s = sat(s + in(5)); out s;")
	if Check(late) != api.ErrLatency {
		t.Error("latency comes first")
	}
}
