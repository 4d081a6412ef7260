package trace

import (
	"packtrail/api"
	"packtrail/machine"
	"packtrail/value"
)

// runner runs a trace on a machine that is at its head.
type runner struct {
	*machine.Machine
	api.Trace
	values []api.Value // those of the orders that were done in this round, by their numbers
}

// exit is thrown where a trace is left by a snapshot.
type exit struct{ by api.Snap }

func (r *runner) rounds(fuel int) {
	end := r.Snaps[len(r.Snaps)-1]
	inside := true
	for inside && r.Steps+end.Steps <= fuel {
		inside = r.round(end)
	}
}

// round does the orders one by one up to the end, and tells whether the trace was not left (J3).
func (r *runner) round(end api.Snap) (inside bool) {
	defer func() {
		switch x := recover().(type) {
		case nil:
		case exit:
			r.goOn(x.by)
		default:
			panic(x)
		}
	}()
	for at, o := range r.Ins {
		r.do(at, o)
	}
	r.goOn(end)
	return true
}

// goOn lays down in the machine what a snapshot says.
func (r *runner) goOn(by api.Snap) {
	f := r.Top()
	for reg, n := range by.Regs {
		if n != -1 {
			f.Regs[reg] = r.values[n]
		}
	}
	f.PC = by.PC
	r.Steps += by.Steps
}

// do does the order at a place. Registers are as the round began: they change only where it ends, or is left.
func (r *runner) do(at int, o api.Ins) {
	switch o.Op {
	case api.TReg:
		r.values[at] = r.Top().Regs[o.X]
	case api.TVal:
		r.values[at] = o.V
	case api.TEmit:
		r.Tell(r.values[o.X])
	case api.TKind:
		r.need(o, func() bool { return r.values[o.X].Kind == o.Y })
	case api.TTrue:
		r.need(o, func() bool { return value.Truth(r.values[o.X]) })
	case api.TFalse:
		r.need(o, func() bool { return !value.Truth(r.values[o.X]) })
	default:
		r.need(o, func() bool { return machine.Try(func() { r.values[at] = r.answer(o) }) == api.OK })
	}
}

// need leaves the trace by the order's snapshot, unless something holds.
func (r *runner) need(o api.Ins, holds func() bool) {
	if !holds() {
		panic(exit{r.Snaps[o.Snap]})
	}
}

// answer does an order that may fail as the machine's do, and answers its value.
func (r *runner) answer(o api.Ins) api.Value {
	switch o.Op {
	case api.TNew:
		return r.NewTable()
	case api.TGet:
		return r.Get(r.values[o.X], r.values[o.Y])
	case api.TSet:
		r.Set(r.values[o.X], r.values[o.Y], r.values[o.Z])
		return api.Value{}
	case api.TLen:
		return r.Len(r.values[o.X])
	case api.TNext:
		return r.Next(r.values[o.X], r.values[o.Y])
	case api.TOp + api.OpNot, api.TOp + api.OpNeg:
		return r.Op(o.Op-api.TOp, r.values[o.X], api.Value{})
	}
	return r.Op(o.Op-api.TOp, r.values[o.X], r.values[o.Y])
}
