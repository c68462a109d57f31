package reports_test

import (
	"strings"
	"testing"

	"soundpost/api"
	"soundpost/fixtures"
	"soundpost/reports"
	"soundpost/session"
	"soundpost/songs"
)

const head = "tempo 0 1000 48 0\n"

func digest(t *testing.T, s api.Session) api.Digest {
	t.Helper()
	d, e := session.Digest(s)
	if e != api.OK {
		t.Fatal(e)
	}
	return d
}

func TestReport(t *testing.T) {
	s := api.Session{
		Tempo: []api.Tempo{{N: 3, D: 2, Ramp: true}, {Tick: 9, N: 1, D: 1}}, Links: []api.Link{{From: 1, To: 5, Num: -2, Den: 3, Add: 4}},
		Procs:  fixtures.Resolve("processor p latency 2 tail forever { param a from -5 to 5; out (in(0)); }"),
		Params: []api.Param{{Id: 1, Value: -7, Knots: []api.Knot{{At: 2, Value: 3, Shape: 3, A: 4, B: 5}}}, {Id: 5, Gestures: []api.Gesture{{Mode: 2, From: 1, To: 2, Until: 3, Knots: []api.Knot{{Shape: 1}}}}}},
		Nodes:  []api.Node{{Id: 1, Kind: 1, Places: []api.Place{{Id: 6, Tick: 2, Off: 1, Clip: api.Clip{Kind: api.LayK, At: []int{8}, L: []api.Clip{{Kind: api.TakeK, Take: api.Digest{0xab, 1}, From: 1, Len: 2}}}}}}, {Id: 2, Kind: 2, Params: []int{5}}},
		Routes: []api.Route{{From: 1, To: 2, Port: 1, Gain: 5, Delay: 3}},
	}
	want := "tempo 0 3 2 1\ntempo 9 1 1 0\nprocessor p latency 2 tail forever { param a from - 5 to 5 ; out in ( 0 ) ; }\nparam 1 -7\nknot 2 3 3 4 5\nparam 5 0\ngesture 2 1 2 3\npoint 0 0 1 0 0\nlink 1 5 -2 3 4\n" +
		"node 1 1 0\nplace 6 2 1 8 - 0 0 0 0 1 8 1 1 ab01" + strings.Repeat("0", 60) + " 1 2 0 0 0 0\nnode 2 2 0 5\nroute 1 2 1 5 3\n"
	src, e := reports.Report(s)
	if e != api.OK || src != want {
		t.Error(src, e)
	}
	if x, line, e := reports.Read(want); e != api.OK || line != 0 || digest(t, x) != digest(t, s) {
		t.Error(line, e)
	}
	if src, e := reports.Report(api.Session{Tempo: []api.Tempo{{N: 1000, D: 48}}}); src != head || e != api.OK {
		t.Error(src, e)
	}
	if src, e := reports.Report(api.Session{}); src != "" || e != api.ErrSession {
		t.Error(e)
	}
	rest := api.Clip{Kind: api.RestK, Len: 1}
	for id, want := range map[int]api.Errno{1 << 62: api.OK, 1<<62 + 1: api.ErrReport} {
		x := api.Session{Tempo: []api.Tempo{{N: 1, D: 1}}, Nodes: []api.Node{{Id: 1, Kind: 1, Places: []api.Place{{Id: id, Clip: rest}}}}}
		if src, e := reports.Report(x); e != want || e != api.OK && src != "" {
			t.Error(id, e)
		}
	}
	deep := api.Expr{Kind: api.NumE}
	for range 70 {
		deep = api.Expr{Kind: api.NegE, L: []api.Expr{deep}}
	}
	x := api.Session{Tempo: []api.Tempo{{N: 1, D: 1}}, Procs: []api.Proc{{Name: "p", Stmts: []api.Stmt{{Kind: api.OutT, X: deep}}}}}
	if src, e := reports.Report(x); e != api.ErrReport || src != "" {
		t.Error(e)
	}
}

func TestRead(t *testing.T) {
	param, gesture, node := "param 1 0\n", "gesture 1 0 1 1\n", "node 1 1 0\n"
	take := "node 1 1 0\nplace 1 0 0 1 " + strings.Repeat("0", 62) + "0a 0 1 0 0 0 0\n"
	for i, x := range []struct {
		src  string
		line int
		e    api.Errno
	}{
		{"", 0, api.ErrSession}, {"tempo 0 1000 48 0", 1, api.ErrReport}, {head + node + "tempo 5 1 1 0\n", 3, api.ErrReport}, {"tempo 0 1000 048 0\n", 1, api.ErrReport}, {head + "node 1 2 0\n", 0, api.ErrSession}, {head, 0, api.OK}, {head + "\n", 2, api.ErrReport}, {head + " ", 2, api.ErrReport}, {"tempo 0 1000 48 2\n", 1, api.ErrReport},
		{"tempo 0 1000 48\n", 1, api.ErrReport}, {"tempo 0 1000 48 0 0\n", 1, api.ErrReport}, {"tempo  0 1000 48 0\n", 1, api.ErrReport}, {" " + head, 1, api.ErrReport}, {"tempo 0 1000 48 0 \n", 1, api.ErrReport}, {"tempo -0 1000 48 0\n", 1, api.ErrReport}, {"tempo +0 1000 48 0\n", 1, api.ErrReport}, {"tempo 0 4611686018427387904 48 0\n", 0, api.ErrSession}, {"tempo 0 4611686018427387905 48 0\n", 1, api.ErrReport},
		{"tempo 0 99999999999999999999 48 0\n", 1, api.ErrReport}, {"what 1\n", 1, api.ErrReport}, {head + "knot 0 0 1 0 0\n", 2, api.ErrReport}, {head + param + "knot 0 0 1 0 0\n" + gesture + "point 0 0 1 0 0\n", 0, api.OK}, {head + param + gesture + "point 0 0 1 0 0\nknot 0 0 1 0 0\n", 5, api.ErrReport}, {head + param + "point 0 0 1 0 0\n", 3, api.ErrReport}, {head + gesture, 2, api.ErrReport},
		{head + param + gesture + "point 0 0 1 0 0\n" + gesture + "point 0 0 1 0 0\n", 0, api.OK}, {head + param + gesture + "knot 0 0 1 0 0\n", 4, api.ErrReport}, {head + "place 1 0 0 2 - 0 1 0 0 0 0\n", 2, api.ErrReport}, {head + node + "place 1 0 0 2 - 0 1 0 0 0 0\n", 0, api.OK}, {head + node + "place 1 0 0 2 - 0 1 0 0 0 0 0\n", 3, api.ErrReport}, {head + node + "place 1 0 0 2 - 0 1 0 0 1 0\n", 3, api.ErrReport},
		{head + node + "place 1 0 0 2 - 0 1 0 0 -1 0\n", 3, api.ErrReport}, {head + node + "place 1 0 0 2 - 0 1 0 0 0 1\n", 3, api.ErrReport}, {head + node + "place 1 0 0 2 - 0 1 0 0 0 -1\n", 3, api.ErrReport}, {head + node + "place 1 0 0 2 - 0 1 0 0 0\n", 3, api.ErrReport}, {head + take, 0, api.OK}, {head + strings.Replace(take, "0a", "0A", 1), 3, api.ErrReport}, {head + strings.Replace(take, "0a", "00", 1), 3, api.ErrReport},
		{head + strings.Replace(take, "0a", "0", 1), 3, api.ErrReport}, {head + "processor p latency 0 tail 0 { out 1 ; }\n", 0, api.OK}, {head + "processor p latency 0 tail 0 { out 1; }\n", 2, api.ErrReport}, {head + "processor p latency 0 tail 0 { out a ; }\n", 2, api.ErrReport}, {head + "processor p latency 0 tail 0 { out in ( 1 ) ; }\n", 0, api.ErrSession}, {head + "processor p latency 0 tail 0 { out 1 ; } processor q latency 0 tail 0 { out 1 ; }\n", 2, api.ErrReport},
		{head + "processor p latency 0 tail 0 { out ( 1 ) ; }\n", 2, api.ErrReport}, {head + "node 1 1\n", 2, api.ErrReport}, {head + "route 1 2 0 0 0\nnode 1 1 0\n", 3, api.ErrReport}, {head + "route 1 2 0 0 0\n", 0, api.ErrSession}, {head + param + "link 1 2 3 4 5\n" + param, 4, api.ErrReport}, {head + node + "link 1 2 3 4 5\n", 3, api.ErrReport}, {head + "processor\n", 2, api.ErrReport}, {strings.ReplaceAll(head, "\n", "\r\n"), 1, api.ErrReport},
	} {
		s, line, e := reports.Read(x.src)
		if line != x.line || e != x.e || e != api.OK && s.Tempo != nil {
			t.Error(i, line, e)
		}
	}
}

func TestBack(t *testing.T) {
	r := &fixtures.Random{State: 1}
	for range 40 {
		s, _ := songs.Make(r, songs.Options{Nodes: 6})
		src, e := reports.Report(s)
		if e != api.OK {
			t.Fatal(e)
		}
		x, line, e := reports.Read(src)
		if e != api.OK || line != 0 || digest(t, x) != digest(t, s) {
			t.Fatal(line, e)
		}
		if again, _ := reports.Report(x); again != src {
			t.Fatal(again)
		}
		lines := strings.SplitAfter(src, "\n")
		k := r.Intn(len(lines) - 1)
		lines[k] = "wrong\n"
		if _, line, e := reports.Read(strings.Join(lines, "")); e != api.ErrReport || line > k+1 {
			t.Fatal(line, k, e)
		}
		b := []byte(src)
		b[r.Intn(len(b))] ^= byte(1 << r.Intn(7))
		if x, _, e := reports.Read(string(b)); e == api.OK {
			if again, f := reports.Report(x); f != api.OK || again != string(b) {
				t.Fatal("not canonical", string(b), again)
			}
		}
	}
}
