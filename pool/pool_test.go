package pool

import (
	"slices"
	"testing"

	"soundpost/api"
	"soundpost/digest"
)

func put(t *testing.T, p api.Pool, l ...[]int) (api.Pool, []api.Digest) {
	t.Helper()
	var names []api.Digest
	for _, data := range l {
		x, d, e := Put(p, data)
		if e != api.OK || Check(x) != api.OK {
			t.Fatal(e)
		}
		p, names = x, append(names, d)
	}
	return p, names
}

func same(a, b api.Pool) bool {
	return slices.EqualFunc(a.Takes, b.Takes, func(x, y api.Take) bool { return x.Digest == y.Digest && slices.Equal(x.Data, y.Data) })
}

func TestPut(t *testing.T) {
	for i, data := range [][]int{nil, {1 << 31}, {-1<<31 - 1}, make([]int, 1<<24+1)} {
		if x, d, e := Put(api.Pool{}, data); e != api.ErrPool || x.Takes != nil || d != (api.Digest{}) {
			t.Error(i, e)
		}
	}
	p, names := put(t, api.Pool{}, []int{1, 2}, []int{-1}, []int{0, 0, 0})
	if names[0] != digest.Tagged("take", []byte{3, 2, 1, 2, 1, 4}) {
		t.Error("digest")
	}
	for i, want := range [][]int{{1, 2}, {-1}, {0, 0, 0}} {
		if data, e := Get(p, names[i]); e != api.OK || !slices.Equal(data, want) {
			t.Error(i, data, e)
		}
	}
	if x, d, e := Put(p, []int{-1}); e != api.OK || d != names[1] || !same(x, p) {
		t.Error(e)
	}
	if data, e := Get(p, api.Digest{1}); e != api.ErrMissing || data != nil {
		t.Error(e)
	}
	q, _ := put(t, api.Pool{}, []int{0, 0, 0}, []int{1, 2}, []int{-1})
	if !same(p, q) {
		t.Error("order")
	}
	for i := len(p.Takes); i < 1024; i++ {
		p, _, _ = Put(p, []int{i})
	}
	if x, _, e := Put(p, []int{5000}); e != api.ErrLimit || x.Takes != nil {
		t.Error(e)
	}
	if _, _, e := Put(p, []int{-1}); e != api.OK {
		t.Error(e)
	}
	x, _ := put(t, api.Pool{}, []int{5000})
	if _, e := Merge(p, x); e != api.ErrLimit {
		t.Error(e)
	}
	if y, e := Merge(p, p); e != api.OK || !same(y, p) {
		t.Error(e)
	}
}

func TestCheck(t *testing.T) {
	p, names := put(t, api.Pool{}, []int{1}, []int{2})
	swapped := api.Pool{Takes: []api.Take{p.Takes[1], p.Takes[0]}}
	twice := api.Pool{Takes: []api.Take{p.Takes[0], p.Takes[0]}}
	for i, x := range []api.Pool{{Takes: []api.Take{{Data: []int{0}}}}, swapped, twice, {Takes: []api.Take{{Digest: names[0], Data: []int{7}}}}, {Takes: make([]api.Take, 1025)}} {
		_, _, e1 := Put(x, nil)
		_, e2 := Get(x, names[0])
		_, e3 := Merge(x, p)
		_, e4 := Merge(p, x)
		_, e5 := Collect(x, nil)
		if Check(x) != api.ErrPool || e1 != api.ErrPool || e2 != api.ErrPool || e3 != api.ErrPool || e4 != api.ErrPool || e5 != api.ErrPool {
			t.Error(i)
		}
	}
	if data, ok := Look(swapped, p.Takes[0].Digest); !ok || !slices.Equal(data, p.Takes[0].Data) {
		t.Error("look")
	}
	first := api.Pool{Takes: []api.Take{{Data: []int{5}}, {Data: []int{6}}}}
	if data, ok := Look(first, api.Digest{}); !ok || data[0] != 5 {
		t.Error("the first one")
	}
	if _, ok := Look(p, api.Digest{}); ok {
		t.Error("not there")
	}
}

func TestMerge(t *testing.T) {
	a, x := put(t, api.Pool{}, []int{1}, []int{2}, []int{3})
	b, y := put(t, api.Pool{}, []int{3}, []int{4})
	m, e := Merge(a, b)
	n, _ := Merge(b, a)
	if e != api.OK || len(m.Takes) != 4 || Check(m) != api.OK || !same(m, n) {
		t.Error(e)
	}
	c, e := Collect(m, []api.Digest{x[0], y[1], {9}})
	if e != api.OK || len(c.Takes) != 2 || Check(c) != api.OK {
		t.Error(e)
	}
	if d, _ := Collect(c, []api.Digest{y[1], x[1]}); len(d.Takes) != 1 || d.Takes[0].Data[0] != 4 {
		t.Error(d)
	}
	if d, e := Collect(m, nil); e != api.OK || len(d.Takes) != 0 {
		t.Error(e)
	}
}
