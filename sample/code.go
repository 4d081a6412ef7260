package sample

import "packtrail/api"

// Code is the program in orders of a number, by a fixed rule. Each of them may be (G1).
func Code(number int) api.Code {
	d := dice(number)
	var p api.Code
	for range 1 + d.roll(4) {
		p.Funs = append(p.Funs, d.head())
	}
	p.Main = d.roll(len(p.Funs))
	p.Funs[p.Main].Params = 0
	for i := range p.Funs {
		d.fill(&p.Funs[i], len(p.Funs))
	}
	return p
}

func (d *dice) head() api.Fn {
	f := api.Fn{Params: d.roll(api.MaxParams + 1)}
	f.Regs = max(1, f.Params) + d.roll(4)
	return f
}

func (d *dice) fill(f *api.Fn, funs int) {
	for range d.roll(6) {
		f.Consts = append(f.Consts, d.constant(funs))
	}
	orders := 1 + d.roll(12)
	for at := range orders - 1 {
		f.Code = append(f.Code, d.order(f, at, orders))
	}
	last := []api.Instr{{Op: api.CReturn, A: d.roll(f.Regs)}, {Op: api.CJump, A: d.roll(orders)}, {Op: api.CLoop, A: d.roll(orders)}}
	f.Code = append(f.Code, last[d.roll(len(last))])
}

func (d *dice) constant(funs int) api.Value {
	switch d.roll(8) {
	case 0:
		return api.Value{}
	case 1:
		return Bool(d.roll(2) == 0)
	case 2, 3:
		return Text(d.one("a b ab 1"))
	case 4:
		return Fun(int64(d.roll(funs)))
	}
	return Num(int64(d.roll(9) - 2))
}

// order is one that may stand at a place among so many.
func (d *dice) order(f *api.Fn, at, orders int) api.Instr {
	a, b, c := d.roll(f.Regs), d.roll(f.Regs), d.roll(f.Regs)
	return d.with(1+d.roll(lastPick), a, b, c, f, at, orders)
}

// lastPick is how many kinds of orders there are to pick from: the operations stand just behind the others.
const lastPick = api.CEmit + api.OpNeg

// with is an order of a kind that was picked, with these registers, as far as it has any.
func (d *dice) with(op, a, b, c int, f *api.Fn, at, orders int) api.Instr {
	switch op {
	case api.CConst:
		if len(f.Consts) > 0 {
			return api.Instr{Op: op, A: a, B: d.roll(len(f.Consts))}
		}
		return api.Instr{Op: api.CNew, A: a}
	case api.CNew, api.CReturn, api.CEmit:
		return api.Instr{Op: op, A: a}
	case api.CMove, api.CLen:
		return api.Instr{Op: op, A: a, B: b}
	case api.CGet, api.CSet, api.CNext:
		return api.Instr{Op: op, A: a, B: b, C: c}
	case api.CJump:
		return api.Instr{Op: op, A: d.roll(orders)}
	case api.CTest:
		return api.Instr{Op: op, A: a, B: d.roll(orders)}
	case api.CLoop:
		return api.Instr{Op: op, A: d.roll(at + 1)}
	case api.CCall:
		return api.Instr{Op: op, A: a, B: b, C: d.roll(min(api.MaxParams, f.Regs-1-b) + 1)}
	case api.CEmit + api.OpNot, api.CEmit + api.OpNeg:
		return api.Instr{Op: op - api.CEmit + api.COp, A: a, B: b}
	default:
		return api.Instr{Op: op - api.CEmit + api.COp, A: a, B: b, C: c}
	}
}
