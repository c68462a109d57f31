package lower

import (
	"soundpost/api"
	"soundpost/whole"
)

const (
	maxStack  = 64
	maxNumber = 1 << 31
)

// effect says how many elements an instruction takes and pushes, and from where to where its operand is.
type effect struct{ takes, pushes, lo, hi int }

func effects(c api.Code) [api.OutI + 1]effect {
	params, states, lines, tables := len(c.Params)-1, len(c.States)-1, len(c.Lines)-1, len(c.Tables)-1
	return [api.OutI + 1]effect{
		api.ConstI: {0, 1, -api.MaxWide, api.MaxWide}, api.ParamI: {0, 1, 0, params}, api.StateI: {0, 1, 0, states},
		api.FetchI: {0, 1, 0, c.Regs - 1}, api.StoreI: {1, 0, 0, c.Regs - 1}, api.SetI: {1, 0, 0, states}, api.PushI: {1, 0, 0, lines},
		api.InI: {1, 1, 0, 0}, api.SideI: {1, 1, 0, 0}, api.TapI: {1, 1, 0, lines}, api.LookI: {1, 1, 0, tables},
		api.SatI: {1, 1, 0, 0}, api.MinI: {2, 1, 0, 0}, api.MaxI: {2, 1, 0, 0}, api.AbsI: {1, 1, 0, 0}, api.NegI: {1, 1, 0, 0},
		api.AddI: {2, 1, 0, 0}, api.SubI: {2, 1, 0, 0}, api.MulI: {2, 1, 0, 0}, api.DivI: {1, 1, 1, maxNumber},
		api.ChooseI: {4, 1, 0, 0}, api.OutI: {1, 0, 0, 0},
	}
}

// Check validates a compiled processor.
func Check(c api.Code) (e api.Errno) {
	if !declared(c) || !whole.Within(c.Regs, 0, api.MaxInstrs) || len(c.Instrs) > api.MaxInstrs || !performs(c) {
		return api.ErrProgram
	}
	return api.OK
}

func sample(v int) bool { return whole.Within(v, api.MinSample, api.MaxSample) }

func bounds(lo, hi int) bool { return sample(lo) && sample(hi) && lo <= hi }

// declared checks what a code declares.
func declared(c api.Code) bool {
	if !whole.Within(c.Latency, 0, api.MaxLook) || !whole.Within(c.Tail, -1, api.MaxMemory) || max(len(c.Params), len(c.States), len(c.Lines), len(c.Tables)) > api.MaxBounds {
		return false
	}
	for _, l := range [][]api.Bound{c.Params, c.States} {
		for _, b := range l {
			if !bounds(b.Lo, b.Hi) {
				return false
			}
		}
	}
	for _, l := range c.Lines {
		if !bounds(l.Lo, l.Hi) || !whole.Within(l.Size, 1, api.MaxLine) {
			return false
		}
	}
	for _, t := range c.Tables {
		if !whole.Within(len(t), 1, api.MaxTable) {
			return false
		}
		for _, v := range t {
			if !sample(v) {
				return false
			}
		}
	}
	return true
}

// performs checks the instructions, and the stack on the way.
func performs(c api.Code) bool {
	table, stack, outs, pushed := effects(c), 0, 0, map[int]bool{}
	for _, x := range c.Instrs {
		if !whole.Within(x.Op, api.ConstI, api.OutI) {
			return false
		}
		f := table[x.Op]
		if !whole.Within(x.A, f.lo, f.hi) || stack < f.takes || x.Op == api.PushI && pushed[x.A] {
			return false
		}
		stack += f.pushes - f.takes
		if stack > maxStack {
			return false
		}
		switch x.Op {
		case api.PushI:
			pushed[x.A] = true
		case api.OutI:
			outs++
		}
	}
	return stack == 0 && outs == 1
}
