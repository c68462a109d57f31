package disk

import (
	"bytes"
	"testing"

	"soundpost/api"
)

func fill(b byte) []byte { return bytes.Repeat([]byte{b}, api.SectorSize) }

func put(t *testing.T, d api.Disk, at int, b []byte) api.Disk {
	t.Helper()
	x, e := Write(d, at, b)
	if e != api.OK || Check(x) != api.OK {
		t.Fatal(e)
	}
	return x
}

func get(t *testing.T, d api.Disk, at int) []byte {
	t.Helper()
	b, e := Read(d, at)
	if e != api.OK {
		t.Fatal(e)
	}
	return b
}

func zero(d api.Disk) bool {
	return d.Sectors == nil && d.Pending == nil && d.Left == 0 && !d.Stopped
}

func TestNew(t *testing.T) {
	for _, n := range []int{0, -1, 4097} {
		if d, e := New(n); e != api.ErrArg || !zero(d) {
			t.Error(n)
		}
	}
	d, e := New(4096)
	if e != api.OK || len(d.Sectors) != 4096 || d.Left != -1 || Check(d) != api.OK {
		t.Error(e)
	}
	d, _ = New(1)
	for i, f := range []func(*api.Disk){
		func(d *api.Disk) { d.Sectors = nil },
		func(d *api.Disk) { d.Sectors = [][]byte{make([]byte, 127)} },
		func(d *api.Disk) { d.Left = -2 },
		func(d *api.Disk) { d.Left = 65537 },
		func(d *api.Disk) { d.Pending = []api.Write{{At: 1, Data: fill(0)}} },
		func(d *api.Disk) { d.Pending = []api.Write{{At: -1, Data: fill(0)}} },
		func(d *api.Disk) { d.Pending = []api.Write{{Data: fill(0)[1:]}} },
	} {
		x := d
		f(&x)
		_, e1 := Read(x, 0)
		_, e2 := Write(x, 0, nil)
		y, e3 := Sync(x)
		_, e4 := Stop(x, 0)
		if Check(x) != api.ErrDisk || e1 != api.ErrDisk || e2 != api.ErrDisk || e3 != api.ErrDisk || e4 != api.ErrDisk || !zero(y) {
			t.Error(i)
		}
	}
	if x := Restart(api.Disk{}); x.Left != -1 || x.Sectors != nil || x.Stopped {
		t.Error("restart")
	}
}

func TestWrite(t *testing.T) {
	d, _ := New(2)
	x := put(t, d, 1, []byte{7, 8})
	if b := get(t, x, 1); len(b) != 128 || b[0] != 7 || b[1] != 8 || b[2] != 0 {
		t.Error(b)
	}
	if get(t, d, 1)[0] != 0 || get(t, x, 0)[0] != 0 {
		t.Error("other disks and sectors")
	}
	y := put(t, x, 1, fill(9))
	if get(t, y, 1)[0] != 9 || get(t, x, 1)[0] != 7 || get(t, Restart(y), 1)[0] != 0 {
		t.Error("last write")
	}
	for _, at := range []int{-1, 2} {
		if _, e := Read(d, at); e != api.ErrDisk {
			t.Error(at)
		}
		if _, e := Write(d, at, fill(0)); e != api.ErrDisk {
			t.Error(at)
		}
	}
	if _, e := Write(d, 0, make([]byte, 129)); e != api.ErrArg {
		t.Error(e)
	}
	for range 4096 {
		d = put(t, d, 0, nil)
	}
	if _, e := Write(d, 0, nil); e != api.ErrLimit {
		t.Error(e)
	}
}

func TestSync(t *testing.T) {
	d, _ := New(3)
	d = put(t, put(t, put(t, d, 0, fill(1)), 1, fill(2)), 0, fill(3))
	x, e := Sync(d)
	if e != api.OK || x.Left != -1 || len(x.Pending) != 0 || get(t, x, 0)[127] != 3 || get(t, x, 1)[0] != 2 || d.Sectors[0][0] != 0 {
		t.Error(x, e)
	}
	s, _ := Stop(d, 5)
	if x, e := Sync(s); e != api.OK || x.Left != 2 || x.Stopped {
		t.Error(x.Left, e)
	}
	s, _ = Stop(d, 3)
	if x, e := Sync(s); e != api.OK || x.Left != 0 || x.Stopped {
		t.Error(x.Left, e)
	}
	s, _ = Stop(d, 2)
	x, e = Sync(s)
	if e != api.ErrDisk || !x.Stopped || x.Left != 0 || len(x.Pending) != 0 || Check(x) != api.OK {
		t.Fatal(x, e)
	}
	if b := x.Sectors[0]; b[63] != 3 || b[64] != 1 || x.Sectors[1][0] != 2 {
		t.Error("torn")
	}
	if _, e := Sync(x); e != api.ErrDisk {
		t.Error("stopped")
	}
	if _, e := Read(x, 0); e != api.ErrDisk {
		t.Error("stopped")
	}
	if _, e := Stop(x, 1); e != api.ErrDisk {
		t.Error("stopped")
	}
	r := Restart(x)
	if r.Stopped || r.Left != -1 || get(t, r, 0)[0] != 3 {
		t.Error("restart")
	}
	for _, n := range []int{-1, 65537} {
		if y, e := Stop(d, n); e != api.ErrArg || !zero(y) {
			t.Error(n)
		}
	}
}

func TestBounds(t *testing.T) {
	d, e := New(1)
	if e != api.OK {
		t.Fatal(e)
	}
	for _, left := range []int{0, 65536} {
		if x, e := Stop(d, left); e != api.OK || x.Left != left || Check(x) != api.OK {
			t.Error(left, e)
		}
	}
	for range 4096 {
		d = put(t, d, 0, nil)
	}
	if Check(d) != api.OK {
		t.Error("4096 writes")
	}
	d.Pending = append(d.Pending, d.Pending[0])
	if Check(d) != api.ErrDisk {
		t.Error("4097 writes")
	}
	if Check(api.Disk{Sectors: make([][]byte, 4097)}) != api.ErrDisk {
		t.Error("4097 sectors")
	}
}
