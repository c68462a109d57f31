package engine

import (
	"soundpost/api"
	"soundpost/fixed"
	"soundpost/lower"
	"soundpost/machine"
)

// Runner runs a processor, block after block.
type Runner struct {
	code  api.Code
	State api.State
}

// NewRunner returns a runner of a processor that tails.Check accepts, in the state in which it begins.
func NewRunner(p api.Proc) *Runner {
	c, _ := lower.Compile(p)
	s, _ := machine.Start(c)
	return &Runner{c, s}
}

// Run performs a step for each of the controls. The inputs are longer by the latency.
func (r *Runner) Run(controls [][]int, in, side []int) []int {
	out := make([]int, 0, len(controls))
	most := min(api.MaxBlock, api.MaxFuel/len(r.code.Instrs))
	for len(controls) > 0 {
		n := min(len(controls), most)
		l, s, _, _ := machine.Run(r.code, r.State, controls[:n], in[:n+r.code.Latency], side[:n+r.code.Latency], n, api.MaxFuel)
		out = append(out, l...)
		r.State = s
		controls, in, side = controls[n:], in[n:], side[n:]
	}
	return out
}

// Feed is the samples of a route with their gains; without gains they are unchanged.
type Feed struct{ Samples, Gains []int }

// Mix returns n samples of an input.
func Mix(n int, feeds []Feed) []int {
	sums := make([]int, n)
	for _, f := range feeds {
		for i, v := range f.Samples {
			if f.Gains != nil {
				v = fixed.Mul(v, f.Gains[i])
			}
			sums[i] += fixed.Clip(v)
		}
	}
	for i, v := range sums {
		sums[i] = fixed.Clip(v)
	}
	return sums
}
