package bounce_test

import (
	"bytes"
	"slices"
	"testing"

	"soundpost/api"
	"soundpost/bounce"
	"soundpost/chunks"
	"soundpost/digest"
	"soundpost/equal"
	"soundpost/fixtures"
	"soundpost/plan"
	"soundpost/render"
	"soundpost/session"
	"soundpost/songs"
)

var flat = []api.Tempo{{N: 1, D: 1}}

func TestEncode(t *testing.T) {
	x := [][]int{{1, 2}, {-1, 3}}
	b, e := bounce.Encode(x)
	if e != api.OK || !bytes.Equal(b, []byte{1, 0, 0, 0, 255, 255, 255, 255, 2, 0, 0, 0, 3, 0, 0, 0}) {
		t.Error(b, e)
	}
	if y, e := bounce.Decode(b, 2); e != api.OK || !equal.Lists(x, y) {
		t.Error(y, e)
	}
	if y, e := bounce.Decode([]byte{0, 0, 0, 128, 255, 255, 255, 127}, 1); e != api.OK || !slices.Equal(y[0], []int{-1 << 31, 1<<31 - 1}) {
		t.Error(y, e)
	}
	if b, e := bounce.Encode(nil); e != api.OK || len(b) != 0 {
		t.Error(b, e)
	}
	for i, x := range [][][]int{{{1}, {1, 2}}, {{1 << 31}}, {{1}, {-1<<31 - 1}}} {
		if b, e := bounce.Encode(x); e != api.ErrArg || b != nil {
			t.Error(i, e)
		}
	}
	for i, x := range []struct{ n, outs int }{{3, 1}, {4, 2}, {4, 0}, {0, 4097}, {0, -1}} {
		if y, e := bounce.Decode(make([]byte, x.n), x.outs); e != api.ErrArg || y != nil {
			t.Error(i, e)
		}
	}
	if y, e := bounce.Decode(nil, 3); e != api.OK || len(y) != 3 || len(y[2]) != 0 {
		t.Error(y, e)
	}
}

func TestErrors(t *testing.T) {
	s := api.Session{Tempo: flat, Nodes: []api.Node{{Id: 1, Kind: api.OutN}}}
	for i, x := range []struct {
		s              api.Session
		from, n, block int
		want           api.Errno
	}{
		{api.Session{}, -1, 0, 0, api.ErrSession}, {s, -1, 0, 1, api.ErrArg}, {s, 0, -1, 1, api.ErrArg}, {s, 0, 0, 0, api.ErrArg}, {s, 0, 0, 65537, api.ErrArg}, {s, 1, 1 << 24, 1, api.ErrLimit}, {s, 1 << 62, 1 << 62, 1, api.ErrLimit}, {s, 0, 1<<24 + 1, 0, api.ErrArg}, {s, 0, 0, 1, api.OK}, {s, 5, 0, 65536, api.OK},
	} {
		b, m, e := bounce.File(x.s, api.Pool{}, x.from, x.n, x.block)
		if e != x.want || len(b) != 0 || e == api.OK && (len(m.Sounds) != 0 || len(m.Snaps) != 1 || m.From != x.from || m.To != x.from+x.n) || e != api.OK && !bounce.Same(m, api.Manifest{}) {
			t.Error(i, m, e)
		}
	}
	if b, m, e := bounce.File(api.Session{Tempo: flat}, api.Pool{}, 0, 5, 2); e != api.OK || len(b) != 0 || len(m.Sounds) != 3 || len(m.Snaps) != 4 || m.Sounds[0] != digest.Tagged("sound", nil) {
		t.Error(b, m, e)
	}
	a := api.Manifest{Block: 1, Sounds: []api.Digest{{1}}}
	if !bounce.Same(a, a) || bounce.Same(a, api.Manifest{Block: 1, Sounds: []api.Digest{{2}}}) || bounce.Same(a, api.Manifest{Block: 1, Sounds: a.Sounds, Snaps: a.Sounds}) || bounce.Same(a, api.Manifest{Block: 2, Sounds: a.Sounds}) {
		t.Error("same")
	}
}

func TestFile(t *testing.T) {
	r := &fixtures.Random{State: 3}
	for range 25 {
		s, p := songs.Make(r, songs.Options{Nodes: 4})
		from, n, block := r.Intn(20), 1+r.Intn(25), 1+r.Intn(9)
		b, m, e := bounce.File(s, p, from, n, block)
		want, _ := render.Outs(s, p, from, n)
		x, _ := bounce.Decode(b, len(want))
		if e != api.OK || !equal.Lists(x, want) {
			t.Fatal(x, want, e)
		}
		d, _ := session.Digest(s)
		many := (n + block - 1) / block
		if m.Session != d || m.From != from || m.To != from+n || m.Block != block || len(m.Sounds) != many || len(m.Snaps) != many+1 {
			t.Fatal(m)
		}
		g, _ := session.Graph(s)
		made, _ := plan.Make(g)
		snap, _ := chunks.Start(s, made)
		_, snap, _ = chunks.Render(s, p, made, snap, from)
		for k := range many {
			size := 4 * len(want)
			part := b[k*block*size : min(n, (k+1)*block)*size]
			if d, _ := chunks.Digest(snap); d != m.Snaps[k] || m.Sounds[k] != digest.Tagged("sound", part) {
				t.Fatal("block", k)
			}
			_, snap, _ = chunks.Render(s, p, made, snap, min(n, (k+1)*block)-k*block)
		}
		if d, _ := chunks.Digest(snap); d != m.Snaps[many] {
			t.Fatal("the last state")
		}
		if k := block * r.Intn(many); k > 0 {
			b1, m1, _ := bounce.File(s, p, from, k, block)
			b2, m2, _ := bounce.File(s, p, from+k, n-k, block)
			if !bytes.Equal(b, append(b1, b2...)) || !slices.Equal(m.Sounds, append(m1.Sounds, m2.Sounds...)) || m1.Snaps[len(m1.Snaps)-1] != m2.Snaps[0] || !slices.Equal(m.Snaps[k/block:], m2.Snaps) {
				t.Fatal("divided")
			}
		}
	}
}

// TestGreatest bounces as far as a file may reach.
func TestGreatest(t *testing.T) {
	s := api.Session{Tempo: flat}
	for i, x := range [][3]int{{1 << 24, 0, 1}, {0, 1 << 24, 65536}, {1<<24 - 5, 5, 5}} {
		if _, m, e := bounce.File(s, api.Pool{}, x[0], x[1], x[2]); e != api.OK || m.To != 1<<24 || len(m.Sounds) != (x[1]+x[2]-1)/x[2] {
			t.Error(i, e)
		}
	}
	if _, _, e := bounce.File(s, api.Pool{}, 1<<24+1, 0, 1); e != api.ErrLimit {
		t.Error(e)
	}
}
