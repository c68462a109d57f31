package ordered

import (
	"slices"
	"testing"
)

func TestUnion(t *testing.T) {
	type pair [2]int
	a, b := []pair{{1, 0}, {3, 0}, {5, 0}}, []pair{{0, 1}, {3, 1}, {7, 1}, {8, 1}}
	compare := func(a, b pair) int { return a[0] - b[0] }
	if l := slices.Collect(Union(a, b, compare)); !slices.Equal(l, []pair{{0, 1}, {1, 0}, {3, 0}, {5, 0}, {7, 1}, {8, 1}}) {
		t.Error(l)
	}
	if l := slices.Collect(Union(nil, a, compare)); !slices.Equal(l, a) {
		t.Error(l)
	}
	for x := range Union(a, nil, compare) {
		if x != a[0] {
			t.Error(x)
		}
		break
	}
}
