package console

import (
	"slices"

	"soundpost/api"
	"soundpost/disk"
	"soundpost/edits"
	"soundpost/journal"
	"soundpost/merge"
	"soundpost/undo"
)

const sectors = 256

// failed is the panic at the error of a command.
type failed struct{ code api.Errno }

func must(e api.Errno) {
	if e != api.OK {
		panic(failed{e})
	}
}

func require(ok bool, code api.Errno) {
	if !ok {
		panic(failed{code})
	}
}

// table is what is worked on. The session is the one that the log yields; it is kept, as building it anew for each operation would take long.
type table struct {
	log       api.Log
	pool      api.Pool
	delivered bool
	file      []byte
	manifest  api.Manifest
	session   api.Session
	refused   int
}

// run is a table with all that belongs to it. Its lists are replaced, not changed, so that a copy remains as it is.
type run struct {
	table
	branches []table
	kept     []api.Command
	disk     api.Disk
	journal  api.Journal
}

func newRun() *run {
	d, _ := disk.New(sectors)
	j, _ := journal.Open(d)
	return begin(d, j)
}

// begin returns a run without commands.
func begin(d api.Disk, j api.Journal) *run {
	return &run{table: table{session: edits.Start()}, disk: d, journal: j}
}

// do performs a command, and returns what is shown of it. With an error, the run remains as it is.
func (r *run) do(c api.Command) (show func(p *printer), e api.Errno) {
	before := *r
	defer func() {
		if f, ok := recover().(failed); ok {
			*r, show, e = before, nil, f.code
		}
	}()
	s := specs()[c.Kind]
	show = s.perform(r, c)
	if s.kept {
		r.kept = append(clipped(r.kept), c)
	}
	return show, api.OK
}

// clipped returns a list that is copied when it grows.
func clipped[T any](l []T) []T { return l[:len(l):len(l)] }

// add adds an operation of a peer to the log. It is the last one, so that it can be applied to the session.
func (t *table) add(peer int, o api.Op) api.Op {
	o.Peer, o.No, o.Time = peer, 0, 1
	for _, x := range t.log.Ops {
		o.Time = max(o.Time, x.Time+1)
		if x.Peer == peer {
			o.No++
		}
	}
	l, e := merge.Add(t.log, o)
	must(e)
	t.log = l
	if o.Kind == api.UndoO {
		s, refused, e := undo.Build(l)
		must(e)
		t.session, t.refused = s, len(refused)
	} else if s, e := edits.Apply(t.session, o); e == api.OK {
		t.session = s
	} else {
		t.refused++
	}
	return o
}

// written returns the journal with all commands that are kept.
func (r *run) written() api.Journal {
	j := r.journal
	for _, c := range r.kept[len(j.Records):] {
		text, _ := say(c)
		x, e := journal.Append(j, []byte(text))
		must(e)
		j = x
	}
	return j
}

// crash lets the disk stop after some writes, and begins anew with what is on it.
func (r *run) crash(left int) {
	d, e := disk.Stop(r.disk, left)
	must(e)
	_, y, e := journal.Sync(r.written(), d)
	require(e == api.OK || e == api.ErrDisk, e)
	d = disk.Restart(y)
	j, e := journal.Open(d)
	must(e)
	again := begin(d, j)
	for _, b := range slices.Clone(j.Records) {
		c, _ := parse(string(b))
		_, e := again.do(c)
		must(e)
	}
	*r = *again
}
