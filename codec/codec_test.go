package codec

import (
	"bytes"
	"math/rand"
	"testing"

	"soundpost/api"
)

func num(n int) api.Value { return api.Value{Kind: api.IntV, N: n} }

func text(s string) api.Value { return api.Value{Kind: api.TextV, S: s} }

func list(l ...api.Value) api.Value { return api.Value{Kind: api.ListV, L: l} }

func nested(n int) api.Value {
	v := list()
	for range n - 1 {
		v = list(v)
	}
	return v
}

func random(r *rand.Rand, depth int) api.Value {
	switch k := r.Intn(3); {
	case k == 0:
		return num(int(r.Uint64()) >> r.Intn(64))
	case k == 1:
		return text(string(make([]byte, r.Intn(300))))
	case depth == 0:
		return list()
	}
	var l []api.Value
	for range r.Intn(4) {
		l = append(l, random(r, depth-1))
	}
	return list(l...)
}

func TestEncode(t *testing.T) {
	nines := bytes.Repeat([]byte{255}, 9)
	for i, x := range []struct {
		v    api.Value
		want []byte
	}{
		{num(0), []byte{1, 0}},
		{num(-3), []byte{1, 5}},
		{num(100), []byte{1, 200, 1}},
		{text("ab"), []byte{2, 2, 97, 98}},
		{list(num(100), text("ab")), []byte{3, 2, 1, 200, 1, 2, 2, 97, 98}},
		{list(), []byte{3, 0}},
		{num(-1 << 63), append(append([]byte{1}, nines...), 1)},
	} {
		b, e := Encode(x.v)
		n, f := Size(x.v)
		if e != api.OK || f != api.OK || !bytes.Equal(b, x.want) || n != len(b) {
			t.Error(i, b, n, e, f)
		}
	}
	for i, x := range []struct {
		v    api.Value
		want api.Errno
	}{
		{api.Value{}, api.ErrArg},
		{api.Value{Kind: 4}, api.ErrArg},
		{api.Value{Kind: api.IntV, L: []api.Value{num(1)}}, api.ErrArg},
		{api.Value{Kind: api.TextV, N: 1}, api.ErrArg},
		{api.Value{Kind: api.ListV, S: "a"}, api.ErrArg},
		{nested(17), api.ErrLimit},
		{list(nested(17), api.Value{}), api.ErrArg},
		{nested(16), api.OK},
	} {
		if e := Check(x.v); e != x.want {
			t.Error(i, e)
		}
		if b, e := Encode(x.v); e != x.want || e != api.OK && b != nil {
			t.Error(i, b, e)
		}
		if n, e := Size(x.v); e != x.want || e != api.OK && n != 0 {
			t.Error(i, n, e)
		}
	}
}

func TestDecode(t *testing.T) {
	nines := bytes.Repeat([]byte{255}, 9)
	for i, b := range [][]byte{
		nil, {0}, {4, 0}, {1, 128, 0}, {1, 5, 0}, {2, 3, 97}, {3, 1}, {3, 255, 255, 255, 255, 15},
		append(append([]byte{1}, nines...), 2), append(bytes.Repeat([]byte{3, 1}, 16), 3, 0),
	} {
		if v, e := Decode(b); e != api.ErrCode || !Same(v, api.Value{}) {
			t.Error(i, v, e)
		}
	}
}

func TestConsequences(t *testing.T) {
	r := rand.New(rand.NewSource(1))
	var all []api.Value
	for range 300 {
		v := random(r, 4)
		all = append(all, v)
		b, _ := Encode(v)
		if w, e := Decode(b); e != api.OK || !Same(v, w) {
			t.Fatal(v, w, e)
		}
		for i := range b {
			if _, e := Decode(b[:i]); e != api.ErrCode {
				t.Fatal("a beginning is decoded")
			}
		}
		c := bytes.Clone(b)
		c[r.Intn(len(c))] ^= byte(1 + r.Intn(255))
		if w, e := Decode(c); e == api.OK {
			if again, _ := Encode(w); !bytes.Equal(again, c) {
				t.Fatal("not canonical")
			}
		}
	}
	want := 0
	zeros := make([]api.Value, len(all))
	for i, v := range all {
		n, _ := Size(v)
		want += n
		zeros[i] = num(0)
	}
	whole, _ := Size(list(all...))
	empty, _ := Size(list(zeros...))
	if whole != empty-2*len(all)+want {
		t.Error("size of a list")
	}
}

func TestSame(t *testing.T) {
	l := []api.Value{{}, {Kind: 9}, num(0), num(1), text(""), text("a"), list(), list(num(0)), {Kind: 3, N: 1}}
	for i, x := range l {
		for k, y := range l {
			if Same(x, y) != (i == k) {
				t.Error(i, k)
			}
		}
	}
	if !Same(api.Value{Kind: 3}, api.Value{Kind: 3, L: []api.Value{}}) {
		t.Error("nil and empty")
	}
}

func TestDigits(t *testing.T) {
	for _, u := range []int{127, 128, 16383, 16384} {
		for _, v := range []api.Value{text(string(make([]byte, u))), num(u / 2), num(-u/2 - 1)} {
			b, _ := Encode(v)
			n, e := Size(v)
			if w, f := Decode(b); e != api.OK || f != api.OK || n != len(b) || !Same(v, w) {
				t.Error(u, n, len(b))
			}
		}
	}
}
