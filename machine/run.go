package machine

import (
	"iter"
	"slices"

	"soundpost/api"
	"soundpost/fixed"
	"soundpost/whole"
)

// ring holds the samples of a line; the last one that was pushed is at the index first.
type ring struct {
	data  []int
	first int
}

func (r *ring) tap(i int) int { return r.data[(r.first+whole.Hold(i, 0, len(r.data)-1))%len(r.data)] }

func (r *ring) push(v int) {
	r.first = (r.first + len(r.data) - 1) % len(r.data)
	r.data[r.first] = v
}

func (r *ring) list() []int { return slices.Concat(r.data[r.first:], r.data[:r.first]) }

// run is a code that is performed, sample after sample.
type run struct {
	code             api.Code
	table            [api.OutI + 1]instruction
	values           []int
	rings            []ring
	pushed           map[int]int
	params, in, side []int
	stack, regs      []int
	out              int
}

// perform performs a code for as many samples as there are params.
func perform(c api.Code, s api.State, params [][]int, in, side []int) (out []int, x api.State) {
	r := &run{code: c, table: instructions(), values: slices.Clone(s.Values), pushed: map[int]int{}, regs: make([]int, c.Regs)}
	for _, l := range s.Lines {
		r.rings = append(r.rings, ring{data: slices.Clone(l)})
	}
	out = make([]int, 0, len(params))
	for v := range r.steps(params, in, side) {
		out = append(out, v)
	}
	x.Values = r.values
	for i := range r.rings {
		x.Lines = append(x.Lines, r.rings[i].list())
	}
	return out, x
}

// steps yields the outputs of all steps.
func (r *run) steps(params [][]int, in, side []int) iter.Seq[int] {
	return func(yield func(int) bool) {
		for i, p := range params {
			r.params, r.in, r.side = p, in[i:], side[i:]
			r.step()
			if !yield(r.out) {
				return
			}
		}
	}
}

func (r *run) step() {
	clear(r.regs)
	for _, x := range r.code.Instrs {
		r.table[x.Op].perform(r, x.A)
	}
	if len(r.pushed) == 0 {
		return
	}
	for i := range r.rings {
		if v, ok := r.pushed[i]; ok {
			r.rings[i].push(v)
		}
	}
	clear(r.pushed)
}

func (r *run) push(v int) {
	r.stack = append(r.stack, whole.Hold(v, -api.MaxWide, api.MaxWide))
}

func (r *run) pop() int {
	top := len(r.stack) - 1
	v := r.stack[top]
	r.stack = r.stack[:top]
	return v
}

// pair takes two elements; the upper one is the second one.
func (r *run) pair() (a, b int) {
	b = r.pop()
	return r.pop(), b
}

// ahead pushes the sample of an input that is as many samples ahead as the stack says.
func (r *run) ahead(l []int) { r.push(l[whole.Hold(r.pop(), 0, r.code.Latency)]) }

// instruction changes a run; a is its operand.
type instruction struct {
	perform func(r *run, a int)
}

func instructions() [api.OutI + 1]instruction {
	return [api.OutI + 1]instruction{
		api.ConstI:  {func(r *run, a int) { r.push(a) }},
		api.ParamI:  {func(r *run, a int) { r.push(r.params[a]) }},
		api.StateI:  {func(r *run, a int) { r.push(r.values[a]) }},
		api.FetchI:  {func(r *run, a int) { r.push(r.regs[a]) }},
		api.StoreI:  {func(r *run, a int) { r.regs[a] = r.pop() }},
		api.SetI:    {func(r *run, a int) { r.values[a] = whole.Hold(r.pop(), r.code.States[a].Lo, r.code.States[a].Hi) }},
		api.PushI:   {func(r *run, a int) { r.pushed[a] = whole.Hold(r.pop(), r.code.Lines[a].Lo, r.code.Lines[a].Hi) }},
		api.InI:     {func(r *run, a int) { r.ahead(r.in) }},
		api.SideI:   {func(r *run, a int) { r.ahead(r.side) }},
		api.TapI:    {func(r *run, a int) { r.push(r.rings[a].tap(r.pop())) }},
		api.LookI:   {func(r *run, a int) { r.push(r.code.Tables[a][whole.Hold(r.pop(), 0, len(r.code.Tables[a])-1)]) }},
		api.SatI:    {func(r *run, a int) { r.push(fixed.Clip(r.pop())) }},
		api.MinI:    {func(r *run, a int) { r.push(min(r.pop(), r.pop())) }},
		api.MaxI:    {func(r *run, a int) { r.push(max(r.pop(), r.pop())) }},
		api.AbsI:    {func(r *run, a int) { v := r.pop(); r.push(max(v, -v)) }},
		api.NegI:    {func(r *run, a int) { r.push(-r.pop()) }},
		api.AddI:    {func(r *run, a int) { x, y := r.pair(); r.push(whole.Add(x, y)) }},
		api.SubI:    {func(r *run, a int) { x, y := r.pair(); r.push(whole.Add(x, -y)) }},
		api.MulI:    {func(r *run, a int) { x, y := r.pair(); r.push(whole.Mul(x, y)) }},
		api.DivI:    {func(r *run, a int) { r.push(whole.Div(r.pop(), a)) }},
		api.ChooseI: {(*run).choose},
		api.OutI:    {func(r *run, a int) { r.out = fixed.Clip(r.pop()) }},
	}
}

func (r *run) choose(int) {
	c, d := r.pair()
	a, b := r.pair()
	if a < b {
		r.push(c)
	} else {
		r.push(d)
	}
}
