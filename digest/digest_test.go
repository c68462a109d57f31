package digest

import (
	"crypto/sha256"
	"math/rand"
	"testing"

	"soundpost/api"
)

func TestSum(t *testing.T) {
	r := rand.New(rand.NewSource(1))
	for n := range 300 {
		b := make([]byte, n)
		r.Read(b)
		if Sum(b) != sha256.Sum256(b) {
			t.Fatal(n)
		}
	}
	s := sha256.Sum256([]byte("tag"))
	if Tagged("tag", []byte("abc")) != sha256.Sum256(append(s[:], "abc"...)) {
		t.Error("tagged")
	}
	if d := Sum(nil); Tagged("", nil) != Sum(d[:]) {
		t.Error("empty tag")
	}
}

func leaves(n int) []api.Digest {
	l := make([]api.Digest, n)
	for i := range l {
		l[i] = Sum([]byte{byte(i), byte(i >> 8)})
	}
	return l
}

func TestTree(t *testing.T) {
	if Tree(nil) != Tagged("empty", nil) {
		t.Error("empty")
	}
	for n := 1; n < 40; n++ {
		l := leaves(n)
		for i := range l {
			p, e := Path(l, i)
			if e != api.OK {
				t.Fatal(n, i, e)
			}
			if d, e := Climb(l[i], i, n, p); e != api.OK || d != Tree(l) {
				t.Fatal(n, i, e)
			}
			if d, e := Climb(l[i], i, n, append(p, l[0])); e != api.ErrArg || d != (api.Digest{}) {
				t.Fatal("a longer path", n, i)
			}
		}
	}
	l := leaves(6)
	if Tree(l) != pair("node", Tree(l[:4]), Tree(l[4:])) || Tree(l[:5]) != pair("node", Tree(l[:4]), leaf(l[4])) {
		t.Error("parts")
	}
	if Tree(l[:1]) != Tagged("leaf", l[0][:]) {
		t.Error("leaf")
	}
	p, _ := Path(l, 5)
	if len(p) != 2 || p[0] != leaf(l[4]) || p[1] != Tree(l[:4]) {
		t.Error("path")
	}
}

func TestWrong(t *testing.T) {
	l := leaves(3)
	for _, at := range []int{-1, 3} {
		if p, e := Path(l, at); e != api.ErrArg || p != nil {
			t.Error(at)
		}
	}
	if _, e := Path(nil, 0); e != api.ErrArg {
		t.Error("no elements")
	}
	for _, x := range []struct{ at, n, path int }{{0, 2, 0}, {0, 0, 0}, {-1, 1, 0}, {1, 1, 0}, {0, 1<<40 + 1, 41}, {0, 1, 1}} {
		if d, e := Climb(l[0], x.at, x.n, make([]api.Digest, x.path)); e != api.ErrArg || d != (api.Digest{}) {
			t.Error(x)
		}
	}
	if _, e := Climb(l[0], 5, 1<<40, make([]api.Digest, 40)); e != api.OK {
		t.Error("the longest path")
	}
}

func TestChain(t *testing.T) {
	l := leaves(2)
	if Chain(l[0], l[1]) != Tagged("chain", append(append([]byte{}, l[0][:]...), l[1][:]...)) {
		t.Error("chain")
	}
	if Chain(api.Digest{}, api.Digest{}) != Tagged("chain", make([]byte, 64)) {
		t.Error("zero")
	}
}
