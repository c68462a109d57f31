package songs

import (
	"testing"

	"soundpost/api"
	"soundpost/fixtures"
	"soundpost/pool"
	"soundpost/session"
)

func TestMake(t *testing.T) {
	r := &fixtures.Random{State: 1}
	routes := 0
	for i := range 30 {
		s, p := Make(r, Options{Finite: i%2 == 0, Nodes: 4})
		if session.Check(s) != api.OK || pool.Check(p) != api.OK {
			t.Fatal(s)
		}
		routes += len(s.Routes)
	}
	if routes < 60 {
		t.Error("few routes", routes)
	}
}
