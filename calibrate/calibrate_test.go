package calibrate

import (
	"slices"
	"testing"

	"soundpost/api"
	"soundpost/fixtures"
)

func rec(device, from, known, in, out int) api.Record {
	return api.Record{Device: device, From: from, Known: known, In: in, Out: out}
}

func TestCheck(t *testing.T) {
	many := make([]api.Record, 257)
	for i := range many {
		many[i] = rec(0, i, 1, 0, 0)
	}
	ok := rec(0, 0, 1, 0, 0)
	for i, x := range []struct {
		l    []api.Record
		want api.Errno
	}{
		{nil, api.OK}, {many[:256], api.OK}, {many, api.ErrLimit}, {make([]api.Record, 257), api.ErrLimit}, {[]api.Record{ok, ok}, api.ErrCalibrate}, {[]api.Record{rec(1, 0, 1, 0, 0), ok}, api.ErrCalibrate}, {[]api.Record{rec(0, 1, 1, 0, 0), ok}, api.ErrCalibrate}, {[]api.Record{rec(0, 0, 2, 0, 0), ok}, api.ErrCalibrate},
		{[]api.Record{rec(16, 0, 1, 0, 0)}, api.ErrCalibrate}, {[]api.Record{rec(-1, 0, 1, 0, 0)}, api.ErrCalibrate}, {[]api.Record{rec(0, -1, 1, 0, 0)}, api.ErrCalibrate}, {[]api.Record{rec(0, 1<<40+1, 1, 0, 0)}, api.ErrCalibrate}, {[]api.Record{rec(0, 0, 0, 0, 0)}, api.ErrCalibrate},
		{[]api.Record{rec(0, 0, 1<<24+1, 0, 0)}, api.ErrCalibrate}, {[]api.Record{rec(0, 0, 1, -1, 0)}, api.ErrCalibrate}, {[]api.Record{rec(0, 0, 1, 0, 1<<20+1)}, api.ErrCalibrate}, {[]api.Record{rec(15, 1<<40, 1<<24, 1<<20, 1<<20)}, api.OK},
	} {
		_, e1 := Add(x.l, rec(9, 9, 9, 9, 9))
		_, _, _, e2 := At(x.l, -1, 0, 0)
		_, e3 := Changed(x.l, -1, 0)
		if Check(x.l) != x.want || x.want != api.OK && (e1 != x.want || e2 != x.want || e3 != x.want) {
			t.Error(i, Check(x.l), e1, e2, e3)
		}
	}
	for i, r := range []api.Record{{}, many[5], rec(0, 5, 1, 7, 7)} {
		if x, e := Add(many[:256], r); e != api.ErrCalibrate || x != nil {
			t.Error(i, e)
		}
	}
	if x, e := Add(many[:256], rec(0, 5, 2, 0, 0)); e != api.ErrLimit || x != nil {
		t.Error(e)
	}
}

func TestAt(t *testing.T) {
	l := []api.Record{rec(2, 100, 5, 3, 30), rec(2, 100, 9, 4, 40), rec(2, 200, 2, 7, 70), rec(3, 0, 1, 1, 1)}
	for i, x := range []struct {
		device, pos, known, in, out int
		ok                          bool
		e                           api.Errno
	}{
		{2, 150, 8, 3, 30, true, api.OK}, {2, 150, 9, 4, 40, true, api.OK}, {2, 200, 9, 7, 70, true, api.OK}, {2, 99, 9, 0, 0, false, api.OK}, {2, 150, 4, 0, 0, false, api.OK}, {2, 250, 4, 7, 70, true, api.OK}, {2, 250, 1, 0, 0, false, api.OK}, {0, 5, 5, 0, 0, false, api.OK},
		{16, 0, 0, 0, 0, false, api.ErrArg}, {-1, 0, 0, 0, 0, false, api.ErrArg}, {0, -1, 0, 0, 0, false, api.ErrArg}, {0, 1<<40 + 1, 0, 0, 0, false, api.ErrArg}, {0, 0, -1, 0, 0, false, api.ErrArg}, {0, 0, 1<<24 + 1, 0, 0, false, api.ErrArg}, {3, 1 << 40, 1 << 24, 1, 1, true, api.OK},
	} {
		if in, out, ok, e := At(l, x.device, x.pos, x.known); in != x.in || out != x.out || ok != x.ok || e != x.e {
			t.Error(i, in, out, ok, e)
		}
	}
}

func TestChanged(t *testing.T) {
	l := []api.Record{rec(2, 100, 5, 3, 0), rec(2, 100, 9, 4, 0)}
	for i, x := range []struct {
		before, after int
		want          [][3]int
		e             api.Errno
	}{
		{8, 9, [][3]int{{2, 100, 1<<40 + 1}}, api.OK}, {5, 5, nil, api.OK}, {5, 8, nil, api.OK}, {-1, 5, nil, api.ErrArg}, {5, 1<<24 + 1, nil, api.ErrArg}, {9, 0, [][3]int{{2, 100, 1<<40 + 1}}, api.OK},
	} {
		if y, e := Changed(l, x.before, x.after); !slices.Equal(y, x.want) || e != x.e {
			t.Error(i, y, e)
		}
	}
	r := &fixtures.Random{State: 1}
	for range 200 {
		var l []api.Record
		for range r.Intn(9) {
			if x, e := Add(l, rec(r.Intn(2), r.Intn(12), 1+r.Intn(4), r.Intn(3), 0)); e == api.OK {
				l = x
			}
		}
		before, after := r.Intn(6), r.Intn(6)
		x, e := Changed(l, before, after)
		back, _ := Changed(l, after, before)
		if e != api.OK || !slices.Equal(x, back) {
			t.Fatal(x, back, e)
		}
		for device := range 2 {
			for pos := range 15 {
				a, b, c, _ := At(l, device, pos, before)
				u, v, w, _ := At(l, device, pos, after)
				in := slices.ContainsFunc(x, func(s [3]int) bool { return s[0] == device && s[1] <= pos && pos < s[2] })
				if in != (a != u || b != v || c != w) {
					t.Fatal(l, before, after, x, device, pos)
				}
			}
		}
		for i := 1; i < len(x); i++ {
			if x[i][0] == x[i-1][0] && x[i][1] <= x[i-1][2] {
				t.Fatal("spans that could be one", x)
			}
		}
	}
}

func TestAdd(t *testing.T) {
	l := []api.Record{rec(0, 5, 1, 1, 1), rec(0, 5, 3, 2, 2), rec(1, 0, 1, 3, 3)}
	var a, b []api.Record
	for i := range l {
		a, _ = Add(a, l[i])
		b, _ = Add(b, l[len(l)-1-i])
	}
	if !slices.Equal(a, l) || !slices.Equal(b, l) {
		t.Error(a, b)
	}
}
