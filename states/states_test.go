package states

import (
	"testing"

	"soundpost/api"
)

func TestFits(t *testing.T) {
	values, lines := []api.Bound{{Lo: 1, Hi: 2}}, []api.Line{{Size: 2, Lo: 4, Hi: 9}}
	s := Start(values, lines)
	if !Fits(s, values, lines) || s.Values[0] != 1 || !Fits(api.State{Values: []int{2}, Lines: [][]int{{9, 0}}}, values, lines) {
		t.Error("fits")
	}
	for i, x := range []api.State{{}, {Values: []int{3}, Lines: s.Lines}, {Values: []int{1}}, {Values: []int{1}, Lines: [][]int{{0}}}, {Values: []int{1}, Lines: [][]int{{0, 3}}}, {Values: []int{1, 1}, Lines: s.Lines}} {
		if Fits(x, values, lines) {
			t.Error(i)
		}
	}
	if !Samples([]int{-1 << 31, 1<<31 - 1}) || Samples([]int{1 << 31}) || Samples([]int{-1<<31 - 1}) {
		t.Error("samples")
	}
}
