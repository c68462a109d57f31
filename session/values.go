package session

import (
	"slices"

	"soundpost/api"
	"soundpost/curves"
	"soundpost/gestures"
	"soundpost/links"
)

// own returns the own values of a parameter.
func (f form) own(at, from, n int) []int {
	p := f.Params[at]
	base := slices.Repeat([]int{p.Value}, n)
	if len(p.Knots) > 0 {
		curve, _ := curves.Resolve(f.Tempo, p.Knots)
		base, _ = curves.Values(curve, from, n)
	}
	v, _ := gestures.Values(base, from, p.Gestures)
	return v
}

// sources returns the links that lead to a parameter, directly or through others, between numbers from 0 (the first source) on, and the first source.
func (f form) sources(at int) (chain []api.Link, first int) {
	all, _ := f.indexed()
	leads := func(to int) (api.Link, bool) {
		for _, x := range all {
			if x.To == to {
				return x, true
			}
		}
		return api.Link{}, false
	}
	for x, ok := leads(at); ok; x, ok = leads(at) {
		chain = append(chain, x)
		at = x.From
	}
	slices.Reverse(chain)
	for i := range chain {
		chain[i].From, chain[i].To = i, i+1
	}
	return chain, at
}

// values returns the values of a parameter. Only its sources matter; where the first one stays, so does the value.
func (f form) values(at, from, n int) []int {
	chain, first := f.sources(at)
	v := f.own(first, from, n)
	if len(chain) == 0 {
		return v
	}
	all := make([]int, len(chain)+1)
	last, value := 0, 0
	for i, x := range v {
		if i == 0 || x != last {
			all[0] = x
			y, _ := links.Values(chain, all)
			last, value = x, y[len(chain)]
		}
		v[i] = value
	}
	return v
}
