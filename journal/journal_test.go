package journal

import (
	"bytes"
	"hash/crc32"
	"math/rand"
	"slices"
	"testing"

	"soundpost/api"
	"soundpost/disk"
)

func fresh(n int) (api.Journal, api.Disk) {
	d, _ := disk.New(n)
	j, _ := Open(d)
	return j, d
}

func appended(t *testing.T, j api.Journal, sizes ...int) api.Journal {
	t.Helper()
	for i, n := range sizes {
		x, e := Append(j, bytes.Repeat([]byte{byte(i + 1)}, n))
		if e != api.OK {
			t.Fatal(n, e)
		}
		j = x
	}
	return j
}

func same(a, b [][]byte) bool { return slices.EqualFunc(a, b, bytes.Equal) }

func TestChecksum(t *testing.T) {
	b := []byte("123456789")
	if checksum(b) != 3421780262 || checksum(b[:3]) != crc32.ChecksumIEEE(b[:3]) {
		t.Error("checksum")
	}
}

func TestAppend(t *testing.T) {
	j, _ := fresh(3)
	if Room(j) != 336 || Room(api.Journal{}) != 0 || Check(api.Journal{}) != api.ErrArg {
		t.Error("room")
	}
	j = appended(t, j, 0, 112)
	if Room(j) != 112 || j.Synced != 0 {
		t.Error(Room(j))
	}
	if x, e := Append(j, make([]byte, 113)); e != api.ErrLimit || x.Many != 0 {
		t.Error(e)
	}
	j = appended(t, j, 1)
	if _, e := Append(j, nil); e != api.ErrLimit {
		t.Error(e)
	}
	for i, x := range []api.Journal{{Many: 4097}, {Many: 1, Synced: 1}, {Many: 1, Synced: -1}, {Many: 1, Records: make([][]byte, 2)}} {
		if _, e := Append(x, nil); e != api.ErrArg || Check(x) != api.ErrArg {
			t.Error(i)
		}
		if _, _, e := Sync(x, api.Disk{}); e != api.ErrArg {
			t.Error(i)
		}
	}
}

func TestSync(t *testing.T) {
	j, d := fresh(12)
	j = appended(t, j, 0, 112, 113, 300)
	x, y, e := Sync(j, d)
	if e != api.OK || x.Synced != 4 || y.Sectors[0][3] != 1 || y.Sectors[0][127] != 1 || y.Sectors[2][10] != 1 || y.Sectors[3][10] != 2 || y.Sectors[3][11] != 1 || y.Sectors[3][9] != 3 {
		t.Fatal(e, x)
	}
	if z, e := Open(y); e != api.OK || !same(z.Records, j.Records) || z.Synced != 4 || z.Many != 12 {
		t.Error(z, e)
	}
	if a, b, e := Sync(x, y); e != api.OK || a.Synced != 4 || b.Left != y.Left {
		t.Error(e)
	}
	more := appended(t, x, 5)
	if _, z, _ := Sync(more, y); z.Sectors[7][3] != 2 {
		t.Error("generation")
	}
	if _, _, e := Sync(j, y); e != api.ErrLog {
		t.Error("other records", e)
	}
	p, _ := disk.Write(y, 0, nil)
	s := y
	s.Stopped = true
	small, _ := disk.New(2)
	for i, c := range []struct {
		d    api.Disk
		want api.Errno
	}{{p, api.ErrArg}, {s, api.ErrDisk}, {small, api.ErrArg}, {api.Disk{}, api.ErrDisk}} {
		if a, b, e := Sync(x, c.d); e != c.want || a.Many != 0 || b.Sectors != nil {
			t.Error(i, e)
		}
	}
	if _, e := Open(p); e != api.ErrArg {
		t.Error(e)
	}
	if _, e := Open(s); e != api.ErrDisk {
		t.Error(e)
	}
	full := disk.Restart(y)
	full.Sectors = slices.Clone(y.Sectors)
	full.Sectors[11] = bytes.Repeat([]byte{255}, 128)
	if _, _, e := Sync(x, full); e != api.ErrLog {
		t.Error("last generation", e)
	}
}

func TestCrash(t *testing.T) {
	r := rand.New(rand.NewSource(1))
	for range 60 {
		j, d := fresh(64)
		for range 4 {
			kept := j.Records
			for range 1 + r.Intn(3) {
				j = appended(t, j, r.Intn(400))
			}
			d, _ = disk.Stop(d, r.Intn(8))
			x, y, e := Sync(j, d)
			if e == api.ErrDisk {
				if x.Many != 0 || !y.Stopped {
					t.Fatal("a stopped disk")
				}
				after, e := Open(disk.Restart(y))
				n := len(after.Records)
				if e != api.OK || n < len(kept) || n > len(j.Records) || !same(after.Records, j.Records[:n]) {
					t.Fatal(n, e)
				}
				j, d = after, disk.Restart(y)
				continue
			}
			j, d = x, disk.Restart(y)
		}
	}
}

func TestChangedByte(t *testing.T) {
	j, d := fresh(9)
	j, d, _ = Sync(appended(t, j, 10, 200, 112, 0), d)
	first := []int{0, 1, 1, 2, 3}
	for k, want := range first {
		for i := range 128 {
			x := disk.Restart(d)
			x.Sectors = slices.Clone(d.Sectors)
			x.Sectors[k] = bytes.Clone(d.Sectors[k])
			x.Sectors[k][i] ^= 16
			if z, e := Open(x); e != api.OK || !same(z.Records, j.Records[:want]) {
				t.Fatal(k, i, len(z.Records))
			}
		}
	}
}

func TestOldGeneration(t *testing.T) {
	d, _ := disk.New(3)
	put := func(at int, b []byte, g uint32) {
		s := sectors(b, at, g)
		d.Sectors[at] = s[0][:]
	}
	put(0, []byte{1}, 5)
	put(1, []byte{2}, 4)
	if j, _ := Open(d); len(j.Records) != 1 {
		t.Error("an older sector goes on")
	}
	put(1, []byte{2}, 5)
	put(2, nil, 9)
	if j, _ := Open(d); len(j.Records) != 3 {
		t.Error("a newer sector does not go on")
	}
}

// TestForm has sectors with a right checksum that are not good all the same.
func TestForm(t *testing.T) {
	for i, f := range []func(s []byte){
		func(s []byte) { s[noAt+1] = 1 }, func(s []byte) { s[noAt] = 1 }, func(s []byte) { s[flagsAt] = 4 }, func(s []byte) { s[flagsAt] = begins }, func(s []byte) { s[flagsAt], s[sizeAt] = ends, 0; clear(s[dataAt:endAt]) },
		func(s []byte) { s[sizeAt] = 113 }, func(s []byte) { s[sizeAt] = 2 }, func(s []byte) { clear(s[:sumAt]); clear(s[endAt:]) }, func(s []byte) { s[0]++ }, func(s []byte) { s[127]++ }, func(s []byte) { s[sumAt]++ }, func(s []byte) { s[endAt-1] = 1 },
	} {
		s := sectors([]byte{1, 2, 3}, 0, 7)[0]
		if !good(s[:], 0) {
			t.Fatal("good")
		}
		before := number(checksum(s[noAt:endAt]))
		f(s[:])
		if bytes.Equal(s[sumAt:noAt], before[:]) {
			sum := number(checksum(s[noAt:endAt]))
			copy(s[sumAt:], sum[:])
		}
		if good(s[:], 0) {
			t.Error(i)
		}
	}
	d, _ := disk.New(2)
	long := sectors(make([]byte, 200), 0, 1)
	d.Sectors[0], d.Sectors[1] = long[1][:], long[1][:]
	d.Sectors[0] = bytes.Clone(d.Sectors[0])
	d.Sectors[0][noAt+1] = 0
	sum := number(checksum(d.Sectors[0][noAt:endAt]))
	copy(d.Sectors[0][sumAt:], sum[:])
	if !good(d.Sectors[0], 0) {
		t.Fatal("a sector that continues")
	}
	if j, e := Open(d); e != api.OK || len(j.Records) != 0 {
		t.Error("no record begins", j, e)
	}
	d.Sectors[0] = long[0][:]
	d.Sectors[1] = make([]byte, 128)
	if j, e := Open(d); e != api.OK || len(j.Records) != 0 {
		t.Error("no record ends", j, e)
	}
}

func TestBounds(t *testing.T) {
	for i, x := range []struct {
		j    api.Journal
		want api.Errno
	}{{api.Journal{Many: 4096}, api.OK}, {api.Journal{Many: 1, Records: [][]byte{{1}}, Synced: 1}, api.OK}, {api.Journal{Many: 1, Records: [][]byte{make([]byte, 112)}}, api.OK}, {api.Journal{Many: 1, Records: [][]byte{make([]byte, 113)}}, api.ErrArg}, {api.Journal{Many: 0}, api.ErrArg}} {
		if e := Check(x.j); e != x.want {
			t.Error(i, e)
		}
	}
	j, d := fresh(3)
	g := number(maxGeneration - 1)
	d.Sectors[2] = bytes.Clone(d.Sectors[2])
	copy(d.Sectors[2][endAt:], g[:])
	if _, y, e := Sync(appended(t, j, 5), d); e != api.OK || read(y.Sectors[0][:4]) != maxGeneration {
		t.Error(e)
	}
}
