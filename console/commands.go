package console

import (
	"slices"
	"strings"

	"soundpost/api"
	"soundpost/audit"
	"soundpost/bounce"
	"soundpost/digest"
	"soundpost/gate"
	"soundpost/history"
	"soundpost/journal"
	"soundpost/meters"
	"soundpost/plan"
	"soundpost/pool"
	"soundpost/render"
	"soundpost/reports"
	"soundpost/session"
	"soundpost/undo"
	"soundpost/whole"
)

const (
	maxSamples = 256
	window     = 4
	floor      = 1
)

// spec says how commands of a kind are written: with a word, some numbers, and perhaps the words of an operation; whether they are kept, and what they do. What is done returns what is shown of it.
type spec struct {
	word    string
	numbers int
	text    bool
	kept    bool
	perform func(r *run, c api.Command) func(p *printer)
}

func specs() [api.CrashW + 1]spec {
	return [api.CrashW + 1]spec{
		api.OpW:     {"op", 1, true, true, (*run).operate},
		api.UndoW:   {"undo", 2, false, true, (*run).undo},
		api.PlayW:   {"play", 2, false, false, (*run).play},
		api.PlanW:   {"plan", 0, false, false, (*run).plan},
		api.MeterW:  {"meter", 2, false, false, (*run).meter},
		api.BounceW: {"bounce", 3, false, true, (*run).bounce},
		api.AuditW:  {"audit", 2, false, false, (*run).audit},
		api.BranchW: {"branch", 0, false, true, (*run).branch},
		api.BackW:   {"back", 0, false, true, (*run).back},
		api.AsofW:   {"asof", 1, false, false, (*run).asof},
		api.ReportW: {"report", 0, false, false, (*run).report},
		api.SaveW:   {"save", 0, false, false, (*run).save},
		api.CrashW:  {"crash", 1, false, false, (*run).restart},
	}
}

// added shows an operation that was added.
func (r *run) added(o api.Op) func(p *printer) {
	return func(p *printer) {
		p.line("op", o.Peer, o.No, o.Time)
		p.line("refused", r.refused)
	}
}

func (r *run) operate(c api.Command) func(p *printer) {
	o, data := opOf(c.Text)
	if o.Kind == api.PlaceO {
		x, d, e := pool.Put(r.pool, data)
		must(e)
		r.pool = x
		o.Clip = api.Clip{Kind: api.TakeK, Take: d, Len: len(data)}
	}
	return r.added(r.add(c.A, o))
}

func (r *run) undo(c api.Command) func(p *printer) {
	of := [2]int{c.A, c.B}
	must(undo.May(r.log, c.A, of))
	return r.added(r.add(c.A, api.Op{Kind: api.UndoO, Of: of}))
}

// outs returns samples of the outputs.
func (r *run) outs(c api.Command) [][]int {
	require(c.B <= maxSamples, api.ErrLimit)
	x, e := render.Outs(r.session, r.pool, c.A, c.B)
	must(e)
	return x
}

func (r *run) play(c api.Command) func(p *printer) {
	x := r.outs(c)
	return func(p *printer) {
		for _, l := range x {
			p.line("out", l)
		}
	}
}

func (r *run) plan(api.Command) func(p *printer) {
	g, e := session.Graph(r.session)
	must(e)
	x, e := plan.Make(g)
	must(e)
	return func(p *printer) {
		p.line("memory", x.Memory)
		p.line("at", x.At)
		p.line("delay", x.Delay)
	}
}

func (r *run) meter(c api.Command) func(p *printer) {
	x := r.outs(c)
	return func(p *printer) {
		for _, l := range x {
			windows, _ := meters.Windows(l, window, window)
			n, ok, _ := gate.Loudness(windows, floor)
			p.line("meter", meters.Peak(l), n, ok)
		}
	}
}

func (r *run) bounce(c api.Command) func(p *printer) {
	require(max(c.A, c.B) <= maxSamples, api.ErrLimit)
	b, m, e := bounce.File(r.session, r.pool, c.A, c.B, c.C)
	must(e)
	r.delivered, r.file, r.manifest = true, b, m
	return func(p *printer) {
		p.line("file", len(b), len(m.Sounds))
		p.line("digest", digest.Sum(b))
	}
}

func (r *run) audit(c api.Command) func(p *printer) {
	require(r.delivered, api.ErrMissing)
	at := whole.Within(c.A, 0, len(r.file)-1)
	require(whole.Within(c.B, 0, 255) && (at || c.B == 0), api.ErrArg)
	b := slices.Clone(r.file)
	if at {
		b[c.A] ^= byte(c.B)
	}
	ok, block, e := audit.Check(r.session, r.pool, b, r.manifest)
	must(e)
	return func(p *printer) { p.line("audit", ok, block) }
}

// branched shows how many branches there are.
func (r *run) branched(p *printer) { p.line("branches", len(r.branches)) }

func (r *run) branch(api.Command) func(p *printer) {
	require(len(r.branches) < api.MaxBranch, api.ErrLimit)
	r.branches = append(clipped(r.branches), r.table)
	return r.branched
}

func (r *run) back(api.Command) func(p *printer) {
	last := len(r.branches) - 1
	require(last >= 0, api.ErrArg)
	r.table, r.branches = r.branches[last], r.branches[:last]
	return r.branched
}

func (r *run) asof(c api.Command) func(p *printer) {
	l, e := history.Asof(r.log, c.A)
	must(e)
	s, _, e := undo.Build(l)
	must(e)
	d, e := session.Digest(s)
	must(e)
	return func(p *printer) {
		p.line("asof", len(l.Ops), len(s.Nodes), len(s.Routes))
		p.line("digest", d)
	}
}

func (r *run) report(api.Command) func(p *printer) {
	src, e := reports.Report(r.session)
	must(e)
	return func(p *printer) {
		p.line("kept", len(r.kept), len(r.journal.Records))
		for text := range strings.Lines(src) {
			p.line(strings.TrimSuffix(text, "\n"))
		}
	}
}

// recorded shows how many records the journal has.
func (r *run) recorded(p *printer) { p.line("records", len(r.journal.Records)) }

func (r *run) save(api.Command) func(p *printer) {
	j, d, e := journal.Sync(r.written(), r.disk)
	must(e)
	r.journal, r.disk = j, d
	return r.recorded
}

func (r *run) restart(c api.Command) func(p *printer) {
	r.crash(c.A)
	return r.recorded
}
