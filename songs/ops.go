package songs

import (
	"strconv"

	"soundpost/api"
	"soundpost/fixtures"
)

// Op returns a well-formed operation that is no UndoO. Its numbers are small, so that it often finds what it names.
func Op(r *fixtures.Random, peer, no int) api.Op {
	o := api.Op{Peer: peer, No: no, Time: 1 + r.Intn(50), Kind: 1 + r.Intn(12)}
	id := func() int { return 1 + r.Intn(4) + 256*r.Intn(3) }
	switch o.Kind {
	case api.ProcO:
		o.Source = "processor n" + strconv.Itoa(r.Intn(6)) + " latency " + strconv.Itoa(r.Intn(3)) + " tail 0 { param a from 0 to 9; out in(0); }"
	case api.NodeO:
		o.A = 1 + r.Intn(4)
		if o.A == api.ProcN {
			o.B = r.Intn(3)
		}
	case api.DropO:
		o.A = id()
	case api.RouteO:
		o.A, o.B, o.C, o.D = id(), id(), r.Intn(5)/4, r.Intn(3)
	case api.CutO:
		o.A, o.B = id(), id()
	case api.ParamO:
		o.A = r.Intn(70000)
	case api.KnotO:
		o.A, o.Knot = id(), api.Knot{At: r.Intn(9), Value: r.Intn(99), Shape: 1 + r.Intn(2)}
	case api.UnknotO:
		o.A, o.B = id(), r.Intn(9)
	case api.BindO:
		o.B = r.Intn(2) * id()
		if r.Intn(2) == 0 {
			o.A, o.C = id(), r.Intn(2)
		} else {
			o.C, o.D = id(), id()
		}
	case api.PlaceO:
		o.A, o.B, o.C, o.Clip = id(), r.Intn(5), r.Intn(3), api.Clip{Kind: api.RestK, Len: 1 + r.Intn(9)}
	case api.UnplaceO:
		o.A, o.B = id(), id()
	case api.TempoO:
		o.A, o.B, o.C, o.D = r.Intn(9), 1+r.Intn(9), 1+r.Intn(9), r.Intn(2)
	}
	return o
}
