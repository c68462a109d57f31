package normal

import (
	"slices"

	"soundpost/api"
	"soundpost/clips"
	"soundpost/equal"
)

// run is n samples of a source, silence if it is of the kind RestK: from the index first on, in steps of 1 or -1 (0 for one sample).
type run struct {
	source         api.Clip
	first, n, step int
}

// runs are the origins of the samples of a clip.
type runs []run

// piece returns n samples of a source in increasing order.
func piece(source api.Clip, first, n int) run {
	r := run{source, first, n, 1}
	if n == 1 {
		r.step = 0
	}
	return r
}

// silent reports whether a run is silence, in which indices do not matter.
func (r run) silent() bool { return r.source.Kind == api.RestK }

// part returns n samples of a run.
func (r run) part(from, n int) run {
	r.first, r.n = r.first+from*r.step, n
	if n == 1 {
		r.step = 0
	}
	return r
}

func (r run) back() run {
	r.first, r.step = r.first+(r.n-1)*r.step, -r.step
	return r
}

// add puts samples at the end: it extends the last run as far as they continue it, and lets the others begin another one.
func (l *runs) add(r run) {
	if len(*l) == 0 {
		*l = append(*l, r)
		return
	}
	last := &(*l)[len(*l)-1]
	if !equal.Clip(last.source, r.source) {
		*l = append(*l, r)
		return
	}
	if r.silent() {
		last.n += r.n
		return
	}
	step := r.first - last.first - max(0, last.n-1)*last.step
	if step != 1 && step != -1 || last.step != 0 && last.step != step {
		*l = append(*l, r)
		return
	}
	last.step = step
	if r.n == 1 || r.step == step {
		last.n += r.n
		return
	}
	last.n++
	*l = append(*l, r.part(1, r.n-1))
}

// join returns runs whose samples follow each other.
func join(lists ...runs) runs {
	var all runs
	for _, l := range lists {
		for _, r := range l {
			all.add(r)
		}
	}
	return all
}

func (l runs) cut(from, n int) runs {
	var x runs
	for _, r := range l {
		if k := min(r.n-from, n); from < r.n && n > 0 {
			x.add(r.part(from, k))
			n -= k
		}
		from = max(0, from-r.n)
	}
	return x
}

func (l runs) back() runs {
	var x runs
	for _, r := range slices.Backward(l) {
		x.add(r.back())
	}
	return x
}

// clip returns the clip of a run.
func (r run) clip() api.Clip {
	switch {
	case r.silent():
		return api.Clip{Kind: api.RestK, Len: r.n}
	case r.step < 0:
		return api.Clip{Kind: api.BackK, L: []api.Clip{r.back().clip()}}
	case r.source.Kind == api.TakeK:
		return api.Clip{Kind: api.TakeK, Take: r.source.Take, From: r.first, Len: r.n}
	}
	if n, e := clips.Len(r.source); e == api.OK && r.first == 0 && n == r.n {
		return r.source
	}
	return api.Clip{Kind: api.CutK, From: r.first, Len: r.n, L: []api.Clip{r.source}}
}

// clip returns the normal form.
func (l runs) clip() api.Clip {
	if len(l) == 1 {
		return l[0].clip()
	}
	x := api.Clip{Kind: api.JoinK}
	for _, r := range l {
		x.L = append(x.L, r.clip())
	}
	return x
}

// kind determines the runs of a clip of a kind from those of the clips in it.
type kind struct {
	runs func(c api.Clip, l []runs) runs
}

func kinds() [api.LayK + 1]kind {
	return [api.LayK + 1]kind{
		api.TakeK:  {takeRuns},
		api.RestK:  {restRuns},
		api.CutK:   {cutRuns},
		api.BackK:  {backRuns},
		api.SpeedK: {thingRuns},
		api.FadeK:  {thingRuns},
		api.JoinK:  {joinRuns},
		api.LayK:   {thingRuns},
	}
}

// collect returns the runs of a valid clip.
func collect(c api.Clip) runs {
	l := make([]runs, len(c.L))
	for i, x := range c.L {
		l[i] = collect(x)
	}
	return kinds()[c.Kind].runs(c, l)
}

func silence(n int) run { return piece(api.Clip{Kind: api.RestK}, 0, n) }

func takeRuns(c api.Clip, l []runs) runs {
	sounding := min(c.Len, api.MaxTake-c.From)
	var x runs
	if sounding > 0 {
		x.add(piece(api.Clip{Kind: api.TakeK, Take: c.Take}, c.From, sounding))
	}
	if sounding < c.Len {
		x.add(silence(c.Len - sounding))
	}
	return x
}

func restRuns(c api.Clip, l []runs) runs { return runs{silence(c.Len)} }

func cutRuns(c api.Clip, l []runs) runs { return l[0].cut(c.From, c.Len) }

func backRuns(c api.Clip, l []runs) runs { return l[0].back() }

func joinRuns(c api.Clip, l []runs) runs { return join(l...) }

// thingRuns returns the run of a thing: the clip with normal forms in it, which have the lengths of the clips.
func thingRuns(c api.Clip, l []runs) runs {
	n, _ := clips.Len(c)
	thing := c
	thing.L = make([]api.Clip, len(l))
	for i, x := range l {
		thing.L[i] = check(x.clip())
	}
	return runs{piece(thing, 0, n)}
}
