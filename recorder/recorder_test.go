package recorder

import (
	"bytes"
	"slices"
	"testing"

	"soundpost/api"
	"soundpost/disk"
	"soundpost/fixtures"
	"soundpost/journal"
)

func TestWrite(t *testing.T) {
	d, _ := disk.New(3)
	j, data, e := Open(d)
	if e != api.OK || len(data) != 0 {
		t.Fatal(data, e)
	}
	x, e := Write(j, []int{1, -1})
	if e != api.OK || !bytes.Equal(x.Records[0], []byte{0, 0, 0, 1, 255, 255, 255, 255}) {
		t.Error(x, e)
	}
	x, _ = Write(x, []int{-1 << 31, 1<<31 - 1, 258})
	if data, e := Data(x); e != api.OK || !slices.Equal(data, []int{1, -1, -1 << 31, 1<<31 - 1, 258}) {
		t.Error(data, e)
	}
	for i, b := range [][]int{nil, make([]int, 17), {1 << 31}, {-1<<31 - 1}} {
		if y, e := Write(x, b); e != api.ErrArg || y.Records != nil {
			t.Error(i, e)
		}
	}
	x, _ = Write(x, make([]int, 16))
	if y, e := Write(x, []int{1}); e != api.ErrLimit || y.Records != nil {
		t.Error(e)
	}
	if y, z, e := Sync(x, d); e != api.OK || y.Synced != 3 {
		t.Error(e)
	} else if _, data, e := Open(z); e != api.OK || len(data) != 21 {
		t.Error(data, e)
	}
}

func TestErrors(t *testing.T) {
	d, _ := disk.New(3)
	j, _ := journal.Open(d)
	for i, b := range [][]byte{nil, {1, 2, 3}, make([]byte, 68)} {
		x, _ := journal.Append(j, b)
		_, e1 := Write(x, nil)
		data, e2 := Data(x)
		_, z, e3 := Sync(x, api.Disk{})
		if e1 != api.ErrTake || e2 != api.ErrTake || e3 != api.ErrTake || data != nil || z.Sectors != nil {
			t.Error(i, e1, e2, e3)
		}
		_, y, _ := journal.Sync(x, d)
		if k, data, e := Open(y); e != api.ErrTake || data != nil || k.Many != 0 {
			t.Error(i, e)
		}
	}
	bad := api.Journal{}
	_, e1 := Write(bad, []int{1})
	_, e2 := Data(bad)
	_, _, e3 := Sync(bad, d)
	_, _, e4 := Open(api.Disk{})
	stopped := d
	stopped.Stopped = true
	_, _, e5 := Open(stopped)
	if e1 != api.ErrArg || e2 != api.ErrArg || e3 != api.ErrArg || e4 != api.ErrDisk || e5 != api.ErrDisk {
		t.Error(e1, e2, e3, e4, e5)
	}
}

func TestCrash(t *testing.T) {
	r := &fixtures.Random{State: 2}
	for range 60 {
		d, _ := disk.New(40)
		j, data, _ := Open(d)
		for range 4 {
			synced := len(data)
			ends := []int{synced}
			for range 1 + r.Intn(5) {
				block := make([]int, 1+r.Intn(16))
				for i := range block {
					block[i] = r.Sample()
				}
				j, _ = Write(j, block)
				data = append(data, block...)
				ends = append(ends, len(data))
			}
			d, _ = disk.Stop(d, r.Intn(6))
			x, y, e := Sync(j, d)
			d = disk.Restart(y)
			if e == api.OK {
				j = x
				continue
			}
			k, found, e := Open(d)
			if e != api.OK || len(found) < synced || !slices.Equal(found, data[:len(found)]) || !slices.Contains(ends, len(found)) {
				t.Fatal(found, data, e)
			}
			j, data = k, found
		}
	}
}
