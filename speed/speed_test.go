package speed

import (
	"slices"
	"testing"

	"soundpost/api"
	"soundpost/fixtures"
)

func TestLen(t *testing.T) {
	for i, x := range []struct {
		n, a, b, want int
		e             api.Errno
	}{
		{0, 1, 2, 0, api.OK}, {1, 64, 1, 1, api.OK}, {5, 2, 4, 0, api.ErrArg}, {5, 2, 3, 7, api.OK}, {5, 0, 1, 0, api.ErrArg}, {5, 1, 0, 0, api.ErrArg}, {5, 65, 1, 0, api.ErrArg}, {5, 1, 65, 0, api.ErrArg},
		{-1, 1, 1, 0, api.ErrArg}, {1<<24 + 1, 1, 1, 0, api.ErrArg}, {1 << 24, 1, 64, (1<<24-1)*64 + 1, api.OK}, {5, 3, 1, 2, api.OK}, {9, 64, 64, 0, api.ErrArg}, {9, 63, 64, 9, api.OK}, {3, -1, 1, 0, api.ErrArg}, {3, 9, 6, 0, api.ErrArg},
	} {
		if n, e := Len(x.n, x.a, x.b); n != x.want || e != x.e {
			t.Error(i, n, e)
		}
	}
}

func TestConvert(t *testing.T) {
	for i, x := range []struct {
		data []int
		a, b int
		want []int
		e    api.Errno
	}{
		{[]int{1, 2, 3, 4, 5}, 2, 1, []int{1, 3, 5}, api.OK}, {[]int{0, 10, 5}, 1, 2, []int{0, 5, 10, 7, 5}, api.OK}, {[]int{0, -1}, 1, 2, []int{0, -1, -1}, api.OK}, {nil, 1, 2, nil, api.OK}, {[]int{1 << 40}, 1, 1, []int{1<<31 - 1}, api.OK},
		{[]int{1, 2}, 2, 2, nil, api.ErrArg}, {make([]int, 1<<24+1), 1, 1, nil, api.ErrArg}, {make([]int, 1<<23+1), 1, 2, nil, api.ErrLimit}, {[]int{0, 30, 60, 90, 120}, 2, 3, []int{0, 20, 40, 60, 80, 100, 120}, api.OK},
	} {
		if y, e := Convert(x.data, x.a, x.b); e != x.e || !slices.Equal(y, x.want) {
			t.Error(i, e)
		}
	}
	r := &fixtures.Random{State: 1}
	for range 300 {
		data := make([]int, 1+r.Intn(30))
		for i := range data {
			data[i] = r.Sample()
		}
		a, b := 1+r.Intn(9), 1+r.Intn(9)
		y, e := Convert(data, a, b)
		if e != api.OK {
			continue
		}
		for i, v := range y {
			q := i * a / b
			next := min(q+1, len(data)-1)
			if w, e := At(data, a, b, i); e != api.OK || w != v || v < min(data[q], data[next]) || v > max(data[q], data[next]) {
				t.Fatal(i, w, v, e)
			}
		}
		slow, _ := Convert(data, 1, b)
		if back, _ := Convert(slow, b, 1); !slices.Equal(back, data) {
			t.Fatal("slow and fast")
		}
	}
}

func TestAt(t *testing.T) {
	for i, x := range []struct{ a, b, i int }{{1, 1, 2}, {1, 1, -1}, {2, 2, 0}, {2, 1, 1}} {
		if y, e := At([]int{1, 2}, x.a, x.b, x.i); e != api.ErrArg || y != 0 {
			t.Error(i, y, e)
		}
	}
	if _, e := At(nil, 1, 1, 0); e != api.ErrArg {
		t.Error(e)
	}
	if _, e := At(make([]int, 1<<24+1), 1, 1, 0); e != api.ErrArg {
		t.Error(e)
	}
	if y, e := At([]int{1, 2}, 1, 2, 1); y != 1 || e != api.OK {
		t.Error(y, e)
	}
}

func TestGreatest(t *testing.T) {
	long := make([]int, 1<<24)
	if x, e := Convert(long, 1, 1); e != api.OK || len(x) != 1<<24 {
		t.Error(e)
	}
	if _, e := At(long, 1, 1, 1<<24-1); e != api.OK {
		t.Error(e)
	}
}
