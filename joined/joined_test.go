// Package joined tests the promises that join the layers (P0.1 to P0.12).
package joined

import (
	"slices"
	"strconv"
	"testing"

	"soundpost/api"
	"soundpost/audit"
	"soundpost/bounce"
	"soundpost/cache"
	"soundpost/certify"
	"soundpost/chunks"
	"soundpost/equal"
	"soundpost/fixtures"
	"soundpost/freeze"
	"soundpost/live"
	"soundpost/merge"
	"soundpost/peers"
	"soundpost/pipes"
	"soundpost/plan"
	"soundpost/pool"
	"soundpost/render"
	"soundpost/replan"
	"soundpost/session"
	"soundpost/songs"
	"soundpost/starts"
	"soundpost/undo"
	"soundpost/workers"
)

const samples = 40

// studio is musicians who edit a song together.
type studio struct {
	*fixtures.Random
	room  api.Room
	pool  api.Pool
	takes []api.Digest
}

func newStudio(r *fixtures.Random) *studio {
	s := &studio{Random: r}
	s.room, _ = peers.New(3)
	for range 3 {
		data := make([]int, 5+r.Intn(20))
		for i := range data {
			data[i] = r.Sample()
		}
		p, d, _ := pool.Put(s.pool, data)
		s.pool, s.takes = p, append(s.takes, d)
	}
	return s
}

// op returns an operation that makes sounds more often than silence.
func (s *studio) op(peer int) api.Op {
	o := songs.Op(s.Random, peer, 0)
	// These are the nodes of jam: tracks, processors, busses and outputs.
	from, to := []int{2, 257, 258, 259, 513, 515}, []int{257, 259, 513, 515, 3, 260, 514}
	switch s.Intn(6) {
	case 0:
		return api.Op{Kind: api.PlaceO, A: []int{2, 258}[s.Intn(2)], B: s.Intn(5), Clip: s.Clip(s.takes, 3)}
	case 1, 2:
		return api.Op{Kind: api.RouteO, A: from[s.Intn(len(from))], B: to[s.Intn(len(to))], C: s.Intn(5) / 4, D: s.Intn(2) * s.Intn(9)}
	}
	switch {
	case o.Kind == api.PlaceO:
		o.Clip = s.Clip(s.takes, 3)
	case o.Kind == api.ProcO:
		o.Source = s.Source("p" + strconv.Itoa(s.Intn(4)))
	case o.Kind == api.TempoO:
		o.B, o.C = 1+s.Intn(3), 1
	case o.Kind == api.DropO && s.Intn(3) > 0:
		o = api.Op{Kind: api.NodeO, A: api.OutN}
	case s.Intn(12) == 0:
		o = api.Op{Kind: api.UndoO, Of: [2]int{peer, s.Intn(20)}}
	}
	return o
}

func (s *studio) do(a api.Act) {
	if x, e := peers.Do(s.room, a); e == api.OK {
		s.room = x
	}
}

// jam lets the musicians edit while messages are lost, repeated and delayed, until all of them know everything.
func (s *studio) jam(acts int) {
	track, proc, out := api.Op{Kind: api.NodeO, A: api.TrackN}, api.Op{Kind: api.NodeO, A: api.ProcN}, api.Op{Kind: api.NodeO, A: api.OutN}
	bus, gain := api.Op{Kind: api.NodeO, A: api.BusN}, api.Op{Kind: api.ParamO, A: 50000}
	source := api.Op{Kind: api.ProcO, Source: "processor q latency 3 tail 5 { param p from -5 to 70000; line d 5 from -2147483648 to 2147483647; push d = in(3); out sat(tap(d, 2) + side(1) + p); }"}
	slow := api.Op{Kind: api.TempoO, B: 1, C: 1}
	for peer, l := range [][]api.Op{{source, track, out, gain, slow}, {proc, track, bus, out}, {proc, out, bus, gain}} {
		for _, o := range l {
			s.do(api.Act{Kind: api.EditA, Peer: peer, Op: o})
		}
	}
	for range acts {
		peer := s.Intn(3)
		s.do(api.Act{Kind: api.EditA, Peer: peer, Op: s.op(peer)})
		s.do(api.Act{Kind: api.DeliverA + s.Intn(3), At: s.Intn(6)})
	}
	s.room.Net.Queue = nil
	for from := range 3 {
		for to := range 3 {
			s.do(api.Act{Kind: api.SyncA, Peer: from, To: to})
		}
	}
	for n := len(s.room.Net.Queue); n > 0; n = len(s.room.Net.Queue) {
		s.do(api.Act{Kind: api.DeliverA, At: s.Intn(n)})
	}
}

// song returns the session of all musicians.
func (s *studio) song(t *testing.T) api.Session {
	t.Helper()
	var digests []api.Digest
	for peer := range s.room.Peers {
		x, e := peers.Session(s.room, peer)
		d, f := session.Digest(x)
		if e != api.OK || f != api.OK {
			t.Fatal(e, f)
		}
		digests = append(digests, d)
	}
	if digests[0] != digests[1] || digests[0] != digests[2] {
		t.Fatal("musicians have different sessions")
	}
	x, _ := peers.Session(s.room, 0)
	return x
}

// late moves the samples of the outputs by their positions.
func late(s api.Session, at []int, outs [][]int) [][]int {
	var x [][]int
	for v, n := range s.Nodes {
		if n.Kind == api.OutN {
			l := outs[len(x)]
			x = append(x, append(make([]int, min(at[v], len(l))), l...)[:len(l)])
		}
	}
	return x
}

func TestWhole(t *testing.T) {
	r := &fixtures.Random{State: 21}
	sounding := 0
	for range 12 {
		studio := newStudio(r)
		studio.jam(80)
		s, p := studio.song(t), studio.pool
		ideal, e := render.Outs(s, p, 0, samples)
		if e != api.OK {
			t.Fatal(e)
		}
		for _, l := range ideal {
			if slices.ContainsFunc(l, func(v int) bool { return v != 0 }) {
				sounding++
			}
		}
		checkPlans(t, r, s, p, ideal)
		checkStarts(t, r, s, p, ideal)
		checkFrozen(t, s, p, ideal)
		checkCache(t, r, s, p)
		checkDelivered(t, r, s, p, ideal)
		checkLive(t, studio, s)
	}
	if sounding < 5 {
		t.Error("few outputs sound", sounding)
	}
}

func checkPlans(t *testing.T, r *fixtures.Random, s api.Session, p api.Pool, ideal [][]int) {
	t.Helper()
	g, _ := session.Graph(s)
	made, _ := plan.Make(g)
	flow, e := certify.Make(g, made)
	if ok, f := certify.Check(g, made, flow); e != api.OK || f != api.OK || !ok {
		t.Fatal("certificate", e, f)
	}
	want := late(s, made.At, ideal)
	if x, e := pipes.Run(s, p, made, samples); e != api.OK || !equal.Lists(x, want) {
		t.Fatal("pipeline", e)
	}
	x, _ := chunks.Start(s, made)
	got := make([][]int, len(want))
	for x.At < samples {
		n := min(1+r.Intn(9), samples-x.At)
		script := []int{r.Intn(5), r.Intn(5), r.Intn(5)}
		out, y, e := workers.Render(s, p, made, x, n, 1+r.Intn(4), script)
		out2, z, f := chunks.Render(s, p, made, x, n)
		if e != api.OK || f != api.OK || !equal.Lists(out, out2) || !chunks.Same(y, z) {
			t.Fatal("workers", e, f)
		}
		for k := range out {
			got[k] = append(got[k], out[k]...)
		}
		x = y
	}
	if !equal.Lists(got, want) {
		t.Fatal("blocks")
	}
	stages := []api.Stage{{Latency: slices.Clone(g.Latency)}, {From: 9, Latency: slices.Clone(g.Latency)}}
	for v, n := range s.Nodes {
		if n.Kind == api.ProcN {
			stages[1].Latency[v]++
		}
	}
	played, e := replan.Play(s, p, stages, samples)
	if e != api.OK {
		return
	}
	plans, _ := replan.Common(g, outs(s), stages)
	if !equal.Lists(played, late(s, plans[0].At, ideal)) {
		t.Fatal("stages")
	}
}

// outs returns the indices of the outputs.
func outs(s api.Session) (l []int) {
	for v, n := range s.Nodes {
		if n.Kind == api.OutN {
			l = append(l, v)
		}
	}
	return l
}

func checkStarts(t *testing.T, r *fixtures.Random, s api.Session, p api.Pool, ideal [][]int) {
	t.Helper()
	at := r.Intn(samples)
	x, e := starts.From(s, p, at, samples-at)
	if m, _ := starts.Memory(s); m == -1 && at > 0 {
		if e != api.ErrForever {
			t.Fatal(e)
		}
		return
	}
	for k := range ideal {
		if e != api.OK || !slices.Equal(x[k], ideal[k][at:]) {
			t.Fatal("start", e)
		}
	}
}

func checkFrozen(t *testing.T, s api.Session, p api.Pool, ideal [][]int) {
	t.Helper()
	for _, n := range s.Nodes {
		if n.Kind != api.BusN && n.Kind != api.ProcN {
			continue
		}
		ahead, _ := freeze.Ahead(s)
		x, q, e := freeze.Freeze(s, p, n.Id, samples+ahead+1)
		got, f := render.Outs(x, q, 0, samples)
		if e != api.OK || f != api.OK || !equal.Lists(got, ideal) {
			t.Fatal("frozen", n.Id, e, f)
		}
		back, e := freeze.Thaw(x, s, n.Id)
		a, _ := session.Digest(back)
		b, _ := session.Digest(s)
		if e != api.OK || a != b {
			t.Fatal("thawed", e)
		}
	}
}

func checkCache(t *testing.T, r *fixtures.Random, s api.Session, p api.Pool) {
	t.Helper()
	c, e := cache.Make(s, p, 5, 8)
	if e != api.OK {
		t.Fatal(e)
	}
	l := []api.Op{{Time: 1, Peer: 7, Kind: api.NodeO, A: api.TrackN}}
	l = append(l, api.Op{Time: 2, Peer: 7, No: 1, Kind: api.DropO, A: anyNode(r, s)})
	for _, o := range l {
		x, _, e := merge.Build(api.Log{Ops: []api.Op{o}})
		if e != api.OK {
			t.Fatal(e)
		}
		y, _, e := cache.Update(c, s, x, p)
		want, _ := cache.Make(x, p, 5, 8)
		if e != api.OK || !equal.Lists(y.Rows, want.Rows) {
			t.Fatal("cache", e)
		}
	}
}

// anyNode returns the Id of a node, or 1 without nodes.
func anyNode(r *fixtures.Random, s api.Session) int {
	if len(s.Nodes) == 0 {
		return 1
	}
	return s.Nodes[r.Intn(len(s.Nodes))].Id
}

func checkDelivered(t *testing.T, r *fixtures.Random, s api.Session, p api.Pool, ideal [][]int) {
	t.Helper()
	b, m, e := bounce.File(s, p, 0, samples, 1+r.Intn(20))
	if ok, block, f := audit.Check(s, p, b, m); e != api.OK || f != api.OK || !ok || block != -1 {
		t.Fatal("audit", block, e, f)
	}
	if len(ideal) == 0 {
		return
	}
	if x, e := bounce.Decode(b, len(ideal)); e != api.OK || !equal.Lists(x, ideal) {
		t.Fatal("file", e)
	}
	at := r.Intn(len(b))
	b[at] ^= 4
	if ok, block, _ := audit.Check(s, p, b, m); ok || block != at/(4*len(ideal)*m.Block) {
		t.Fatal("altered", block)
	}
}

func checkLive(t *testing.T, x *studio, s api.Session) {
	t.Helper()
	all := x.room.Peers[1].Known
	half := api.Log{Ops: all.Ops[:len(all.Ops)/2]}
	before, _, _ := undo.Build(half)
	heard, e := live.Play(x.pool, []api.Cue{{Log: half}, {At: 13, Log: all}}, samples)
	for at, v := range heard {
		now := s
		if at < 13 {
			now = before
		}
		if want := mixed(now, x.pool, at); e != api.OK || v != want {
			t.Fatal("heard", at, v, want, e)
		}
	}
}

// mixed returns the mix of all outputs at a sample.
func mixed(s api.Session, p api.Pool, at int) int {
	l, _ := render.Outs(s, p, at, 1)
	sum := 0
	for _, o := range l {
		sum += o[0]
	}
	return max(-1<<31, min(sum, 1<<31-1))
}
