package flows

import (
	"slices"
	"testing"
	"time"

	"soundpost/fixtures"
)

func cost(arcs []Arc, at []int) int {
	sum := 0
	for _, x := range arcs {
		held := at[x.To] + x.Slack - at[x.From]
		if held < 0 {
			return -1
		}
		sum += x.Weight * held
	}
	return sum
}

// cheapest tries all positions below a bound; later ones are greater somewhere.
func cheapest(n int, arcs []Arc, bound int) []int {
	var best []int
	at := make([]int, n)
	for {
		if c := cost(arcs, at); c >= 0 {
			if best == nil || c < cost(arcs, best) {
				best = slices.Clone(at)
			} else if c == cost(arcs, best) {
				for v := range best {
					best[v] = min(best[v], at[v])
				}
			}
		}
		v := 0
		for v < n && at[v] == bound-1 {
			at[v] = 0
			v++
		}
		if v == n {
			return best
		}
		at[v]++
	}
}

func TestCheapest(t *testing.T) {
	r := &fixtures.Random{State: 2}
	for range 600 {
		n := 1 + r.Intn(4)
		var arcs []Arc
		for range r.Intn(7) {
			arcs = append(arcs, Arc{r.Intn(n), r.Intn(n), r.Intn(3), r.Intn(5) - 2})
		}
		least, ok := Least(n, arcs)
		if !ok {
			continue
		}
		if slices.Max(least) > 5 {
			continue
		}
		want := cheapest(n, arcs, 13)
		if got := Cheapest(n, arcs); !slices.Equal(got, want) {
			t.Fatal(n, arcs, got, want)
		}
	}
}

func TestLeast(t *testing.T) {
	if at, ok := Least(2, []Arc{{0, 1, 0, -3}, {1, 0, 0, 3}}); !ok || !slices.Equal(at, []int{0, 3}) {
		t.Error(at, ok)
	}
	if at, ok := Least(2, []Arc{{0, 1, 0, -3}, {1, 0, 0, 2}}); ok || at != nil {
		t.Error(at, ok)
	}
}

func TestLarge(t *testing.T) {
	r := &fixtures.Random{State: 4}
	begin := time.Now()
	for _, span := range []int{50, 4000} {
		n := 4096
		var arcs []Arc
		for range 16384 {
			from := r.Intn(n - 1)
			arcs = append(arcs, Arc{from, min(n-1, from+1+r.Intn(span)), 1 + r.Intn(64), -r.Intn(4096)})
		}
		at := Cheapest(n, arcs)
		least, _ := Least(n, arcs)
		if cost(arcs, at) < 0 || cost(arcs, at) > cost(arcs, least) {
			t.Error("not cheapest")
		}
		t.Log(cost(arcs, at), cost(arcs, least))
	}
	if d := time.Since(begin); d > 30*time.Second {
		t.Error("too slow", d)
	} else {
		t.Log(d)
	}
}
