package engine_test

import (
	"slices"
	"testing"

	"soundpost/api"
	"soundpost/engine"
	"soundpost/fixed"
	"soundpost/fixtures"
	"soundpost/session"
	"soundpost/songs"
)

func TestValues(t *testing.T) {
	r := &fixtures.Random{State: 1}
	s, _ := songs.Make(r, songs.Options{Nodes: 6})
	v := engine.NewValues(s)
	for _, from := range []int{0, 3, 2040, 2047, 4095, 1<<40 - 5} {
		for _, n := range []int{0, 1, 7, 3000} {
			want, e := session.Values(s, 12, from, n)
			if got := v.Gains(12, from, n); e != api.OK || !slices.Equal(got, want) {
				t.Fatal(from, n)
			}
		}
	}
	for _, n := range s.Nodes {
		if n.Kind == api.ProcN {
			want, _ := session.Controls(s, n.Id, 2040, 50)
			if got := v.Controls(n.Id, 2040, 50); !slices.EqualFunc(got, want, slices.Equal[[]int]) {
				t.Fatal(n.Id)
			}
		}
	}
	last, _ := session.Values(s, 12, 1<<40, 1)
	if got := v.Gains(12, 1<<40+5000, 3000); len(got) != 3000 || got[0] != last[0] || got[2999] != last[0] {
		t.Error("behind the timeline")
	}
}

func TestRunner(t *testing.T) {
	p := fixtures.Resolve("processor p latency 1 tail forever { state s from 0 to 1000000; set s = min(s + 1, 1000000); out sat(in(1) + s); }")[0]
	r := engine.NewRunner(p)
	const n = 70000
	in := make([]int, n+1)
	in[5] = 10
	out := r.Run(make([][]int, n), in, make([]int, n+1))
	if len(out) != n || out[0] != 1 || out[4] != 15 || out[n-1] != n || r.State.Values[0] != n {
		t.Error(len(out), out[4], r.State)
	}
}

func TestMix(t *testing.T) {
	got := engine.Mix(2, []engine.Feed{{Samples: []int{1 << 31, 5}}, {Samples: []int{-1, -7}, Gains: []int{api.Unity, 32768}}})
	want := []int{fixed.Mix([]int{1 << 31, -1}), fixed.Mix([]int{5, fixed.Mul(-7, 32768)})}
	if !slices.Equal(got, want) {
		t.Error(got, want)
	}
}
