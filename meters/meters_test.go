package meters

import (
	"slices"
	"testing"

	"soundpost/api"
	"soundpost/fixtures"
)

func TestPeak(t *testing.T) {
	for i, x := range []struct {
		data []int
		want int
	}{{nil, 0}, {[]int{3, -5}, 5}, {[]int{-1 << 31}, 1 << 31}, {[]int{1 << 40}, 1<<31 - 1}, {[]int{-1 << 63, 7}, 1 << 31}} {
		if n := Peak(x.data); n != x.want {
			t.Error(i, n)
		}
	}
}

func TestEnergy(t *testing.T) {
	for i, x := range []struct {
		data []int
		want int
		e    api.Errno
	}{
		{nil, 0, api.OK}, {[]int{256, -256, 255, -1}, 3, api.OK}, {make([]int, 65537), 0, api.ErrLimit}, {slices.Repeat([]int{-1 << 31}, 65536), 1 << 62, api.OK}, {[]int{-1 << 63}, 1 << 46, api.OK}, {[]int{-257}, 4, api.OK},
	} {
		if n, e := Energy(x.data); n != x.want || e != x.e {
			t.Error(i, n, e)
		}
	}
}

func TestWindows(t *testing.T) {
	five := []int{256, 512, 768, 1024, 1280}
	for i, x := range []struct {
		data      []int
		size, hop int
		want      []int
		e         api.Errno
	}{
		{five, 2, 3, []int{5, 41}, api.OK}, {five, 5, 1, []int{55}, api.OK}, {five, 6, 1, nil, api.OK}, {five, 1, 2, []int{1, 9, 25}, api.OK}, {nil, 1, 1, nil, api.OK}, {five, 0, 1, nil, api.ErrArg}, {five, 65537, 1, nil, api.ErrArg}, {five, 1, 0, nil, api.ErrArg}, {five, 1, 1<<24 + 1, nil, api.ErrArg}, {five, 1, 1 << 24, []int{1}, api.OK},
	} {
		if l, e := Windows(x.data, x.size, x.hop); e != x.e || !slices.Equal(l, x.want) {
			t.Error(i, l, e)
		}
	}
	loud := slices.Repeat([]int{-1 << 31}, 400000)
	if l, e := Windows(loud, 65536, 100000); e != api.OK || len(l) != 4 || l[3] != 1<<62 {
		t.Error(l, e)
	}
	r := &fixtures.Random{State: 1}
	data := make([]int, 50)
	for i := range data {
		data[i] = r.Sample()
	}
	l, _ := Windows(data, 7, 4)
	for i := range l {
		if n, _ := Energy(data[4*i : 4*i+7]); n != l[i] {
			t.Error(i, n)
		}
	}
}

func TestHold(t *testing.T) {
	if l, e := Hold([]int{5, 0, 0, 1}, 2); e != api.OK || !slices.Equal(l, []int{5, 3, 1, 1}) {
		t.Error(l, e)
	}
	if l, e := Hold([]int{5, 0, -9, 1}, 0); e != api.OK || !slices.Equal(l, []int{5, 5, 9, 9}) {
		t.Error(l, e)
	}
	if l, e := Hold([]int{-1 << 31, 3}, 1<<31); e != api.OK || !slices.Equal(l, []int{1 << 31, 3}) {
		t.Error(l, e)
	}
	for _, fall := range []int{-1, 1<<31 + 1} {
		if l, e := Hold([]int{1}, fall); e != api.ErrArg || l != nil {
			t.Error(e)
		}
	}
}
