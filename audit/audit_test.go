package audit_test

import (
	"bytes"
	"slices"
	"testing"

	"soundpost/api"
	"soundpost/audit"
	"soundpost/bounce"
	"soundpost/chunks"
	"soundpost/fixtures"
	"soundpost/plan"
	"soundpost/session"
	"soundpost/songs"
)

var flat = []api.Tempo{{N: 1, D: 1}}

func TestErrors(t *testing.T) {
	s := api.Session{Tempo: flat, Nodes: []api.Node{{Id: 1, Kind: api.OutN}}}
	b, m, _ := bounce.File(s, api.Pool{}, 2, 5, 2)
	made := api.Plan{At: []int{0}}
	x, _ := chunks.Start(s, made)
	_, x, _ = chunks.Render(s, api.Pool{}, made, x, 2)
	for i, f := range []func(*api.Manifest){
		func(m *api.Manifest) { *m = api.Manifest{} }, func(m *api.Manifest) { m.From = -1 }, func(m *api.Manifest) { m.To = 1 }, func(m *api.Manifest) { m.To = 1<<24 + 1 }, func(m *api.Manifest) { m.Block = 65537 }, func(m *api.Manifest) { m.Block = 0 }, func(m *api.Manifest) { m.Sounds = m.Sounds[1:] }, func(m *api.Manifest) { m.Snaps = m.Snaps[1:] },
	} {
		y := m
		f(&y)
		ok, k, e1 := audit.Check(s, api.Pool{}, b, y)
		ok2, e2 := audit.Block(s, api.Pool{}, y, x, -1, nil)
		if ok || ok2 || k != 0 || e1 != api.ErrManifest || e2 != api.ErrManifest {
			t.Error(i, e1, e2)
		}
	}
	if _, _, e := audit.Check(api.Session{}, api.Pool{}, b, api.Manifest{}); e != api.ErrSession {
		t.Error(e)
	}
	if _, e := audit.Block(api.Session{}, api.Pool{}, api.Manifest{}, x, 0, b); e != api.ErrSession {
		t.Error(e)
	}
	late := x
	late.At++
	other := x
	other.Lines = [][]int{nil}
	for i, c := range []struct {
		x    api.Snap
		at   int
		b    []byte
		ok   bool
		want api.Errno
	}{{x, -1, nil, false, api.ErrArg}, {x, 3, nil, false, api.ErrArg}, {late, 0, nil, false, api.ErrSnap}, {x, 1, nil, false, api.ErrSnap}, {other, 0, nil, false, api.ErrSnap}, {x, 0, make([]byte, 8), true, api.OK}, {x, 0, make([]byte, 7), false, api.OK}} {
		if ok, e := audit.Block(s, api.Pool{}, m, c.x, c.at, c.b); ok != c.ok || e != c.want {
			t.Error(i, ok, e)
		}
	}
	wrong := m
	wrong.Snaps = slices.Clone(m.Snaps)
	wrong.Snaps[0][3]++
	if _, e := audit.Block(s, api.Pool{}, wrong, x, 0, make([]byte, 8)); e != api.ErrSnap {
		t.Error(e)
	}
}

// check expects that a number is named, -1 if the file is right.
func check(t *testing.T, s api.Session, p api.Pool, b []byte, m api.Manifest, want int) {
	t.Helper()
	if ok, k, e := audit.Check(s, p, b, m); e != api.OK || ok != (want < 0) || k != want {
		t.Fatal(ok, k, e, want)
	}
}

func TestCheck(t *testing.T) {
	r := &fixtures.Random{State: 9}
	for range 15 {
		s, p := songs.Make(r, songs.Options{Nodes: 4})
		from, n, block := r.Intn(15), 1+r.Intn(20), 1+r.Intn(7)
		b, m, _ := bounce.File(s, p, from, n, block)
		many := len(m.Sounds)
		check(t, s, p, b, m, -1)
		check(t, s, p, append(bytes.Clone(b), 0), m, many)
		at := r.Intn(len(b))
		changed := bytes.Clone(b)
		changed[at] ^= 1
		check(t, s, p, changed, m, at/(8*block))
		check(t, s, p, b[:at], m, at/(8*block))
		k := r.Intn(many)
		x := m
		x.Sounds = slices.Clone(m.Sounds)
		x.Sounds[k][5]++
		check(t, s, p, b, x, k)
		x = m
		x.Snaps = slices.Clone(m.Snaps)
		x.Snaps[k][5]++
		check(t, s, p, b, x, k)
		x.Snaps = slices.Clone(m.Snaps)
		x.Snaps[many][5]++
		check(t, s, p, b, x, many)
		x = m
		x.Session[0]++
		check(t, s, p, b, x, many)
		oneByOne(t, s, p, b, m)
	}
}

// oneByOne audits each block from the state before it.
func oneByOne(t *testing.T, s api.Session, p api.Pool, b []byte, m api.Manifest) {
	t.Helper()
	g, _ := session.Graph(s)
	made, _ := plan.Make(g)
	x, _ := chunks.Start(s, made)
	_, x, _ = chunks.Render(s, p, made, x, m.From)
	for k := range m.Sounds {
		n := min(m.Block, m.To-m.From-k*m.Block)
		part := b[8*k*m.Block : 8*(k*m.Block+n)]
		if ok, e := audit.Block(s, p, m, x, k, part); !ok || e != api.OK {
			t.Fatal(k, ok, e)
		}
		wrong := bytes.Clone(part)
		wrong[0] ^= 128
		if ok, e := audit.Block(s, p, m, x, k, wrong); ok || e != api.OK {
			t.Fatal(k, ok, e)
		}
		y := m
		y.Snaps = slices.Clone(m.Snaps)
		y.Snaps[k+1][0]++
		if ok, e := audit.Block(s, p, y, x, k, part); ok || e != api.OK {
			t.Fatal(k, ok, e)
		}
		_, x, _ = chunks.Render(s, p, made, x, n)
	}
}
