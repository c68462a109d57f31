package live

import (
	"slices"
	"testing"

	"soundpost/api"
	"soundpost/fixed"
	"soundpost/merge"
	"soundpost/pool"
	"soundpost/render"
	"soundpost/undo"
)

func log(l ...api.Op) (x api.Log) {
	for i, o := range l {
		o.No, o.Time = i, i+1
		x.Ops = append(x.Ops, o)
	}
	return x
}

func TestCheck(t *testing.T) {
	bad := api.Log{Ops: []api.Op{{}}}
	for i, x := range []struct {
		l    []api.Cue
		want api.Errno
	}{
		{nil, api.ErrArg}, {[]api.Cue{{At: 1}}, api.ErrArg}, {[]api.Cue{{}, {}}, api.ErrArg}, {[]api.Cue{{}}, api.OK}, {[]api.Cue{{}, {At: 1 << 40}}, api.OK}, {[]api.Cue{{}, {At: 1<<40 + 1}}, api.ErrArg}, {[]api.Cue{{Log: bad}, {At: -1}}, api.ErrArg}, {[]api.Cue{{}, {At: 5}, {At: 4}}, api.ErrArg},
		{[]api.Cue{{}, {At: 3, Log: bad}}, api.ErrOp}, {[]api.Cue{{Log: bad}, {At: 3, Log: api.Log{Ops: make([]api.Op, 4097)}}}, api.ErrOp},
	} {
		y, e := Play(api.Pool{}, x.l, -1)
		if Check(x.l) != x.want || x.want != api.OK && e != x.want || x.want == api.OK && e != api.ErrArg || y != nil {
			t.Error(i, Check(x.l), e)
		}
	}
	if x, e := Play(api.Pool{}, []api.Cue{{}}, 65537); e != api.ErrLimit || x != nil {
		t.Error(e)
	}
	if x, e := Play(api.Pool{}, []api.Cue{{}}, 3); e != api.OK || !slices.Equal(x, []int{0, 0, 0}) {
		t.Error(x, e)
	}
}

func TestPlay(t *testing.T) {
	p, d, _ := pool.Put(api.Pool{}, []int{1 << 30, 2, 3, 4, 5, 6, 7, 8})
	place := api.Op{Kind: api.PlaceO, A: 1, Clip: api.Clip{Kind: api.TakeK, Take: d, Len: 8}}
	ops := []api.Op{{Kind: api.NodeO, A: api.TrackN}, place, {Kind: api.NodeO, A: api.OutN}, {Kind: api.RouteO, A: 1, B: 3}, {Kind: api.NodeO, A: api.OutN}, {Kind: api.RouteO, A: 1, B: 5}, {Kind: api.NodeO, A: api.OutN}, {Kind: api.RouteO, A: 1, B: 7}, {Kind: api.UndoO, Of: [2]int{0, 7}}}
	cues := []api.Cue{{Log: log(ops[:8]...)}, {At: 2, Log: log(ops[:2]...)}, {At: 3, Log: log(ops[:4]...)}, {At: 5, Log: log(ops...)}, {At: 6, Log: log(ops...)}, {At: 9, Log: log()}}
	x, e := Play(p, cues, 8)
	if e != api.OK || !slices.Equal(x, []int{1<<31 - 1, 6, 0, 4, 5, 12, 14, 16}) {
		t.Error(x, e)
	}
	for n := range 8 {
		if y, e := Play(p, cues, n); e != api.OK || !slices.Equal(y, x[:n]) {
			t.Error(n, y, e)
		}
	}
	less := slices.Delete(slices.Clone(cues), 4, 5)
	if y, _ := Play(p, less, 8); !slices.Equal(x, y) {
		t.Error(y)
	}
	all := cues[3].Log
	s, _, _ := undo.Build(all)
	outs, _ := render.Outs(s, p, 5, 3)
	for i := range 3 {
		if fixed.Mix([]int{outs[0][i], outs[1][i], outs[2][i]}) != x[5+i] {
			t.Error(i)
		}
	}
	if !merge.Same(all, cues[4].Log) {
		t.Error("logs")
	}
}

func TestGreatestBlock(t *testing.T) {
	if x, e := Play(api.Pool{}, []api.Cue{{}, {At: 65536}}, 65536); e != api.OK || len(x) != 65536 {
		t.Error(len(x), e)
	}
}
