package songs

import (
	"slices"

	"soundpost/api"
	"soundpost/fixtures"
	"soundpost/session"
)

// Edit returns a session that differs a little from a valid one, and is valid, too.
func Edit(r *fixtures.Random, s api.Session) api.Session {
	for {
		if x := edited(r, s); session.Check(x) == api.OK {
			return x
		}
	}
}

func edited(r *fixtures.Random, s api.Session) api.Session {
	s.Tempo, s.Params, s.Links = slices.Clone(s.Tempo), slices.Clone(s.Params), slices.Clone(s.Links)
	s.Nodes, s.Routes = slices.Clone(s.Nodes), slices.Clone(s.Routes)
	switch p := r.Intn(len(s.Params)); r.Intn(9) {
	case 0:
		s.Params[p].Value += 1000
	case 1:
		s.Params[p].Gestures = append(s.Params[p].Gestures[:len(s.Params[p].Gestures):len(s.Params[p].Gestures)], api.Gesture{Mode: api.TouchM, From: 4, To: 9, Until: 9, Knots: []api.Knot{{Value: 9, Shape: api.HoldC}}})
	case 2:
		s.Links[r.Intn(2)].Add++
	case 3:
		s.Tempo[1].N++
	case 4, 5:
		n := &s.Nodes[r.Intn(2)]
		if len(n.Places) > 0 {
			n.Places = slices.Clone(n.Places)
			n.Places[r.Intn(len(n.Places))].Off += 1 + r.Intn(3)
		}
	case 6:
		if len(s.Routes) > 0 {
			s.Routes[r.Intn(len(s.Routes))].Delay++
		}
	case 7:
		if len(s.Routes) > 0 {
			k := r.Intn(len(s.Routes))
			s.Routes = slices.Delete(s.Routes, k, k+1)
		}
	case 8:
		k := r.Intn(len(s.Nodes))
		id := s.Nodes[k].Id
		s.Nodes = slices.Delete(s.Nodes, k, k+1)
		s.Routes = slices.DeleteFunc(s.Routes, func(x api.Route) bool { return x.From == id || x.To == id })
		s.Nodes = append(s.Nodes, api.Node{Id: 100, Kind: api.BusN})
	}
	return s
}
