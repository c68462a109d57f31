package reports

import (
	"slices"
	"strconv"
	"strings"

	"soundpost/api"
	"soundpost/names"
	"soundpost/session"
	"soundpost/syntax"
	"soundpost/whole"
)

// wrong is the panic at a wrong line.
type wrong struct{}

func must(ok bool) {
	if !ok {
		panic(wrong{})
	}
}

// The rows of the table in their order.
const (
	tempoR = iota
	procR
	paramR
	linkR
	nodeR
	routeR
)

// kind says of which row a line is, after which first words it may follow (nil: any of its row or an earlier one), and how it is read.
type kind struct {
	row   int
	after []string
	read  func(r *reader, words []string)
}

func kinds() map[string]kind {
	return map[string]kind{
		"tempo":     {tempoR, nil, (*reader).tempo},
		"processor": {procR, nil, (*reader).processor},
		"param":     {paramR, nil, (*reader).param},
		"knot":      {paramR, []string{"param", "knot"}, (*reader).knot},
		"gesture":   {paramR, []string{"param", "knot", "gesture", "point"}, (*reader).gesture},
		"point":     {paramR, []string{"gesture", "point"}, (*reader).point},
		"link":      {linkR, nil, (*reader).link},
		"node":      {nodeR, nil, (*reader).node},
		"place":     {nodeR, []string{"node", "place"}, (*reader).place},
		"route":     {routeR, nil, (*reader).route},
	}
}

// reader reads a session, line by line.
type reader struct {
	session api.Session
	row     int
	last    string
	kinds   map[string]kind
}

// Read reads a report.
func Read(src string) (s api.Session, line int, e api.Errno) {
	r := &reader{kinds: kinds()}
	for n := 1; src != ""; n++ {
		text, rest, ended := strings.Cut(src, "\n")
		if !ended || !r.line(text) {
			return api.Session{}, n, api.ErrReport
		}
		src = rest
	}
	if e := session.Check(r.session); e != api.OK {
		return api.Session{}, 0, e
	}
	return r.session, 0, api.OK
}

// line reads a line, and reports whether it is not wrong.
func (r *reader) line(text string) (ok bool) {
	defer func() {
		if recover() != nil {
			ok = false
		}
	}()
	words := strings.Split(text, " ")
	k, known := r.kinds[words[0]]
	must(known && k.row >= r.row && (k.after == nil || slices.Contains(k.after, r.last)))
	k.read(r, words)
	r.row, r.last = k.row, words[0]
	return true
}

func number(word string) int {
	n, err := strconv.Atoi(word)
	must(err == nil && strconv.Itoa(n) == word && whole.Within(n, -maxNumber, maxNumber))
	return n
}

// fields returns the numbers after the first word, of which there must be so many.
func fields(words []string, many int) []int {
	must(len(words) == many+1)
	return all(words[1:])
}

func all(words []string) (l []int) {
	for _, w := range words {
		l = append(l, number(w))
	}
	return l
}

func (r *reader) tempo(words []string) {
	l := fields(words, 4)
	must(l[3] == 0 || l[3] == 1)
	r.session.Tempo = append(r.session.Tempo, api.Tempo{Tick: l[0], N: l[1], D: l[2], Ramp: l[3] == 1})
}

func (r *reader) processor(words []string) {
	text := strings.Join(words, " ")
	l, _, e := syntax.Parse(text)
	must(e == api.OK && len(l) == 1)
	p, e := names.Resolve(l[0])
	must(e == api.OK)
	src, e := syntax.Print([]api.Proc{p})
	must(e == api.OK && src == text)
	r.session.Procs = append(r.session.Procs, p)
}

func (r *reader) param(words []string) {
	l := fields(words, 2)
	r.session.Params = append(r.session.Params, api.Param{Id: l[0], Value: l[1]})
}

func knotOf(words []string) api.Knot {
	l := fields(words, 5)
	return api.Knot{At: l[0], Value: l[1], Shape: l[2], A: l[3], B: l[4]}
}

// current returns the parameter that was read last.
func (r *reader) current() *api.Param { return &r.session.Params[len(r.session.Params)-1] }

func (r *reader) knot(words []string) {
	p := r.current()
	p.Knots = append(p.Knots, knotOf(words))
}

func (r *reader) gesture(words []string) {
	l, p := fields(words, 4), r.current()
	p.Gestures = append(p.Gestures, api.Gesture{Mode: l[0], From: l[1], To: l[2], Until: l[3]})
}

func (r *reader) point(words []string) {
	p := r.current()
	g := &p.Gestures[len(p.Gestures)-1]
	g.Knots = append(g.Knots, knotOf(words))
}

func (r *reader) link(words []string) {
	l := fields(words, 5)
	r.session.Links = append(r.session.Links, api.Link{From: l[0], To: l[1], Num: l[2], Den: l[3], Add: l[4]})
}

func (r *reader) node(words []string) {
	must(len(words) >= 4)
	l := all(words[1:])
	r.session.Nodes = append(r.session.Nodes, api.Node{Id: l[0], Kind: l[1], Proc: l[2], Params: l[3:]})
}

func (r *reader) place(words []string) {
	must(len(words) >= 4)
	l := all(words[1:4])
	clip, rest := readClip(words[4:])
	must(len(rest) == 0)
	n := &r.session.Nodes[len(r.session.Nodes)-1]
	n.Places = append(n.Places, api.Place{Id: l[0], Tick: l[1], Off: l[2], Clip: clip})
}

func (r *reader) route(words []string) {
	l := fields(words, 5)
	r.session.Routes = append(r.session.Routes, api.Route{From: l[0], To: l[1], Port: l[2], Gain: l[3], Delay: l[4]})
}

// readClip reads the words of a clip, and returns the others.
func readClip(words []string) (c api.Clip, rest []string) {
	must(len(words) >= 7)
	l := all(words[2:7])
	c = api.Clip{Kind: number(words[0]), Take: digestOf(words[1]), From: l[0], Len: l[1], A: l[2], B: l[3]}
	rest = words[7:]
	must(whole.Within(l[4], 0, len(rest)-1))
	c.At, rest = all(rest[:l[4]]), rest[l[4]:]
	many := number(rest[0])
	rest = rest[1:]
	must(whole.Within(many, 0, len(rest)))
	for range many {
		var x api.Clip
		x, rest = readClip(rest)
		c.L = append(c.L, x)
	}
	return c, rest
}

// digestOf returns the digest that a word is written for.
func digestOf(word string) (d api.Digest) {
	if len(word) == 2*len(d) {
		for i := range d {
			high, low := strings.IndexByte(hex, word[2*i]), strings.IndexByte(hex, word[2*i+1])
			must(high >= 0 && low >= 0)
			d[i] = byte(high<<4 | low)
		}
	}
	must(digestWord(d) == word)
	return d
}
