package record

import (
	"slices"
	"strings"

	"packtrail/api"
	"packtrail/machine"
	"packtrail/value"
)

// recorder makes the trace that it embeds of what the machine that it embeds does.
type recorder struct {
	*machine.Machine
	api.Trace
	began int               // the Steps as the round began
	set   []int             // of each register the order whose value was put into it, asBegun if none was
	has   func(reg int) int // gives an order whose value is what a register has
}

// asBegun stands for a register that is as the round began.
const asBegun = -1

// noSnap stands in an order by which the trace is never left.
const noSnap = -1

// begin goes along with a twin of a machine, so that this one stays where it is.
func begin(m *machine.Machine) *recorder {
	r := &recorder{Machine: m.Twin(), began: m.Steps}
	f := r.Top()
	r.Fun, r.Head = f.Fun, f.PC
	r.set = slices.Repeat([]int{asBegun}, len(f.Regs))
	r.has = r.reader()
	return r
}

// reader gives what finds the order for a register. One that is as the round began is read by an order of its own, once for all.
func (r *recorder) reader() func(reg int) int {
	read := map[int]int{}
	return func(reg int) int {
		if number := r.set[reg]; number != asBegun {
			return number
		}
		number, is := read[reg]
		if !is {
			number = r.add(api.Ins{Op: api.TReg, X: reg, Snap: noSnap})
			read[reg] = number
		}
		return number
	}
}

// goAlong does a step and lays it down, and tells whether the round is plain so far.
func (r *recorder) goAlong() bool {
	o := r.Order()
	if o.Op == api.CCall || o.Op == api.CReturn {
		return false
	}
	r.note(o)
	r.Step()
	return r.End == api.EndFuel
}

// note lays down an order of the machine's that is to be done next.
func (r *recorder) note(o api.Instr) {
	switch o.Op {
	case api.CJump, api.CLoop: // they always go the same way
	case api.CMove:
		r.set[o.A] = r.has(o.B)
	case api.CConst:
		r.set[o.A] = r.add(api.Ins{Op: api.TVal, V: r.constant(o.B), Snap: noSnap})
	case api.CEmit:
		r.add(api.Ins{Op: api.TEmit, X: r.has(o.A), Snap: noSnap})
	case api.CTest:
		r.addLeaving(r.guard(o.A), o.A)
	case api.CSet:
		r.addLeaving(api.TSet, o.A, o.B, o.C)
	default:
		op, asked := twin(o)
		r.set[o.A] = r.addLeaving(op, asked...)
	}
}

// constant is one of the function's, in memory of its own.
func (r *recorder) constant(number int) api.Value {
	v := r.Funs[r.Fun].Consts[number]
	v.S = strings.Clone(v.S)
	return v
}

// guard is the order that holds as long as a test goes the way that it goes now.
func (r *recorder) guard(reg int) int {
	if value.Truth(r.Top().Regs[reg]) {
		return api.TTrue
	}
	return api.TFalse
}

// twin is the trace's order for one of the machine's that puts a value into A, and the registers that it asks for.
func twin(o api.Instr) (op int, asked []int) {
	switch o.Op {
	case api.CNew:
		return api.TNew, nil
	case api.CGet:
		return api.TGet, []int{o.B, o.C}
	case api.CLen:
		return api.TLen, []int{o.B}
	case api.CNext:
		return api.TNext, []int{o.B, o.C}
	case api.COp + api.OpNot, api.COp + api.OpNeg:
		return o.Op - api.COp + api.TOp, []int{o.B}
	}
	return o.Op - api.COp + api.TOp, []int{o.B, o.C}
}

// addLeaving puts an order behind all others that asks for what registers have. Where it can't be done, the trace is left ahead of the step, which the machine then does itself.
func (r *recorder) addLeaving(op int, regs ...int) int {
	var fields [3]int
	for i, reg := range regs {
		fields[i] = r.has(reg)
	}
	return r.add(api.Ins{Op: op, X: fields[0], Y: fields[1], Z: fields[2], Snap: r.snap()})
}

// add puts an order behind all others, and gives its number.
func (r *recorder) add(o api.Ins) int {
	r.Ins = append(r.Ins, o)
	return len(r.Ins) - 1
}

// snap makes a snapshot of where the machine is now, and gives its number.
func (r *recorder) snap() int {
	r.Snaps = append(r.Snaps, api.Snap{PC: r.Top().PC, Steps: r.Steps - r.began, Regs: slices.Clone(r.set)})
	return len(r.Snaps) - 1
}
