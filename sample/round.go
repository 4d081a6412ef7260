package sample

import (
	"packtrail/api"
	"packtrail/machine"
	"packtrail/value"
)

// Round is a program and a state of it, by a fixed rule, from which on the machine goes round a loop of its last frame: no step of that fails, calls or returns. It answers, too, how many steps that takes.
func Round(number int) (p api.Code, s api.State, steps int) {
	d := dice(number)
	p = Code(number)
	fun := d.roll(len(p.Funs))
	w := &grower{dice: d, Fn: &p.Funs[fun]}
	w.Code = []api.Instr{{Op: api.CLoop}}
	s = StateAt(p, fun, 0, number)
	w.goes = machine.New(p, s)
	for range w.roll(24) {
		w.grow()
	}
	w.Code[w.at()].Op = []int{api.CLoop, api.CJump}[w.roll(2)]
	for _, number := range w.free {
		w.Code[number].B = w.roll(len(w.Code))
	}
	return p, s, w.goes.Steps - s.Steps + 1
}

// grower lets a function of a program grow, order by order, along what the machine does. The last order is always the one that goes back to the first, and the machine is there.
type grower struct {
	dice
	*api.Fn
	goes *machine.Machine // has the same list of functions, and so sees this one grow
	free []int            // tests whose other way nobody has gone
}

// at is where the machine is.
func (w *grower) at() int { return len(w.Code) - 1 }

// grow puts an order that can be done ahead of the last one, if it finds one of the kind that it picks.
func (w *grower) grow() {
	if w.roll(5) == 0 {
		w.turn()
		return
	}
	pick := 1 + w.roll(lastPick)
	for range 60 {
		o := w.with(pick, w.roll(w.Regs), w.roll(w.Regs), w.roll(w.Regs), w.Fn, 0, 1)
		switch o.Op {
		case api.CJump, api.CLoop, api.CTest, api.CCall, api.CReturn:
			return
		}
		if w.put(o) {
			return
		}
	}
}

// turn puts a test or a jump ahead of the last order; there may be orders behind it that the machine leaves out.
func (w *grower) turn() {
	at, reg := w.at(), w.roll(w.Regs)
	var left []api.Instr
	for range w.roll(3) {
		left = append(left, w.order(w.Fn, 0, 1))
	}
	elsewhere := at + 1 + len(left)
	switch {
	case w.roll(4) == 0:
		w.put(api.Instr{Op: api.CJump, A: elsewhere}, left...)
	case value.Truth(w.goes.Top().Regs[reg]):
		w.put(api.Instr{Op: api.CTest, A: reg})
		w.free = append(w.free, at)
	default:
		w.put(api.Instr{Op: api.CTest, A: reg, B: elsewhere}, left...)
	}
}

// put puts an order ahead of the last one, with some behind it that are left out, and has the machine do it; nothing changes, if it can't.
func (w *grower) put(o api.Instr, left ...api.Instr) bool {
	at := w.at()
	w.Code = append(append(append(w.Code[:at], o), left...), api.Instr{Op: api.CLoop})
	w.goes.Step()
	if w.goes.End == api.EndFuel {
		return true
	}
	w.goes.Steps, w.goes.End, w.goes.Err = w.goes.Steps-1, api.EndFuel, api.OK
	w.Code = append(w.Code[:at], api.Instr{Op: api.CLoop})
	return false
}
