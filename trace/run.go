package trace

import (
	"packtrail/api"
	"packtrail/machine"
	"packtrail/value"
)

// Runner runs a trace on a machine, whenever that is at its head.
type Runner struct {
	*machine.Machine
	api.Trace
	values []api.Value // those of the orders that were done in this round, by their numbers
}

// exit is thrown where a trace is left by a snapshot.
type exit struct{ by api.Snap }

// On makes a runner of a trace that may be, on a machine of the same program.
func On(m *machine.Machine, t api.Trace) *Runner {
	return &Runner{m, t, make([]api.Value, len(t.Ins))}
}

// Rounds does rounds on the machine, which is at the trace's head and may go on, as long as there is fuel for a whole one, and the trace is not left (J2).
func (r *Runner) Rounds(fuel int) {
	end := r.Snaps[len(r.Snaps)-1]
	inside := true
	for inside && r.Steps+end.Steps <= fuel {
		inside = r.round(end)
	}
}

// round does the orders one by one up to the end, and tells whether the trace was not left (J3).
func (r *Runner) round(end api.Snap) (inside bool) {
	defer func() {
		switch x := recover().(type) {
		case nil:
		case exit:
			r.goOn(x.by)
		default:
			panic(x)
		}
	}()
	for at, o := range r.Ins {
		r.do(at, o)
	}
	r.goOn(end)
	return true
}

// goOn lays down in the machine what a snapshot says.
func (r *Runner) goOn(by api.Snap) {
	f := r.Top()
	for reg, n := range by.Regs {
		if n != -1 {
			f.Regs[reg] = r.values[n]
		}
	}
	f.PC = by.PC
	r.Steps += by.Steps
}

// do does the order at a place. Registers are as the round began: they change only where it ends, or is left.
func (r *Runner) do(at int, o api.Ins) {
	switch o.Op {
	case api.TReg:
		r.values[at] = r.Top().Regs[o.X]
	case api.TVal:
		r.values[at] = o.V
	case api.TEmit:
		r.Tell(r.values[o.X])
	case api.TKind:
		r.need(o, func() bool { return r.values[o.X].Kind == o.Y })
	case api.TTrue:
		r.need(o, func() bool { return value.Truth(r.values[o.X]) })
	case api.TFalse:
		r.need(o, func() bool { return !value.Truth(r.values[o.X]) })
	default:
		r.need(o, func() bool { return machine.Try(func() { r.values[at] = r.answer(o) }) == api.OK })
	}
}

// need leaves the trace by the order's snapshot, unless something holds.
func (r *Runner) need(o api.Ins, holds func() bool) {
	if !holds() {
		panic(exit{r.Snaps[o.Snap]})
	}
}

// answer does an order that may fail as the machine's do, and answers its value.
func (r *Runner) answer(o api.Ins) api.Value {
	switch o.Op {
	case api.TNew:
		return r.NewTable()
	case api.TGet:
		return r.Get(r.values[o.X], r.values[o.Y])
	case api.TSet:
		r.Set(r.values[o.X], r.values[o.Y], r.values[o.Z])
		return api.Value{}
	case api.TLen:
		return r.Len(r.values[o.X])
	case api.TNext:
		return r.Next(r.values[o.X], r.values[o.Y])
	case api.TOp + api.OpNot, api.TOp + api.OpNeg:
		return r.Op(o.Op-api.TOp, r.values[o.X], api.Value{})
	}
	return r.Op(o.Op-api.TOp, r.values[o.X], r.values[o.Y])
}
