package peers

import (
	"iter"
	"slices"

	"soundpost/api"
	"soundpost/edits"
	"soundpost/merge"
	"soundpost/network"
	"soundpost/undo"
	"soundpost/whole"
)

// failed is the panic at the first error of an act.
type failed struct{ code api.Errno }

func must(e api.Errno) {
	if e != api.OK {
		panic(failed{e})
	}
}

func require(ok bool, code api.Errno) {
	if !ok {
		panic(failed{code})
	}
}

// work is a room whose peers and links can be changed.
type work struct{ api.Room }

func newWork(r api.Room) *work {
	r.Peers = slices.Clone(r.Peers)
	return &work{r}
}

func acts() map[int]func(*work, api.Act) {
	return map[int]func(*work, api.Act){
		api.EditA: (*work).edit, api.SyncA: (*work).sync, api.DeliverA: (*work).deliver, api.LoseA: (*work).lose, api.RepeatA: (*work).repeat,
	}
}

func (w *work) isPeer(n int) bool { return whole.Within(n, 0, len(w.Peers)-1) }

// send sends packets.
func (w *work) send(packets iter.Seq[api.Packet]) {
	for p := range packets {
		x, e := network.Send(w.Net, p)
		must(e)
		w.Net = x
	}
}

// toAll yields the packets of an operation to all peers but its own.
func (w *work) toAll(o api.Op) iter.Seq[api.Packet] {
	return func(yield func(api.Packet) bool) {
		data := encode(o)
		for to := range w.Peers {
			if to != o.Peer && !yield(api.Packet{From: o.Peer, To: to, Data: data}) {
				return
			}
		}
	}
}

// known yields the packets of all operations that a peer knows to another one.
func (w *work) known(from, to int) iter.Seq[api.Packet] {
	return func(yield func(api.Packet) bool) {
		for _, o := range w.Peers[from].Known.Ops {
			if !yield(api.Packet{From: from, To: to, Data: encode(o)}) {
				return
			}
		}
	}
}

func (w *work) edit(a api.Act) {
	require(w.isPeer(a.Peer), api.ErrArg)
	p := &w.Peers[a.Peer]
	require(p.Next < maxNext, api.ErrLimit)
	o := a.Op
	o.Peer, o.No, o.Time = a.Peer, p.Next, 1
	for _, x := range p.Known.Ops {
		o.Time = max(o.Time, x.Time+1)
	}
	must(edits.Check(o))
	if o.Kind == api.UndoO {
		must(undo.May(p.Known, a.Peer, o.Of))
	}
	w.learn(a.Peer, o)
	w.send(w.toAll(o))
}

// learn lets a peer know an operation, and never use the numbers of its own ones again.
func (w *work) learn(peer int, o api.Op) {
	p := &w.Peers[peer]
	x, e := merge.Add(p.Known, o)
	must(e)
	p.Known = x
	if o.Peer == peer {
		p.Next = max(p.Next, o.No+1)
	}
}

func (w *work) sync(a api.Act) {
	require(w.isPeer(a.Peer) && w.isPeer(a.To) && a.Peer != a.To, api.ErrArg)
	w.send(w.known(a.Peer, a.To))
}

func (w *work) deliver(a api.Act) {
	p, x, e := network.Deliver(w.Net, a.At)
	must(e)
	w.Net = x
	if p.From == p.To {
		return
	}
	o, _ := decode(p.Data)
	w.learn(p.To, o)
}

func (w *work) lose(a api.Act) {
	x, e := network.Lose(w.Net, a.At)
	must(e)
	w.Net = x
}

func (w *work) repeat(a api.Act) {
	x, e := network.Repeat(w.Net, a.At)
	must(e)
	w.Net = x
}
