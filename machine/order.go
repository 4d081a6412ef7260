package machine

import (
	"packtrail/api"
	"packtrail/value"
)

// do does an order of the frame at work, and sees to where that one goes on.
func (m *Machine) do(o api.Instr) {
	f := m.Top()
	switch o.Op {
	case api.CJump, api.CLoop:
		f.PC = o.A
	case api.CTest:
		f.PC++
		if !value.Truth(f.Regs[o.A]) {
			f.PC = o.B
		}
	case api.CCall:
		m.call(f.Regs[o.B:o.B+1+o.C], o.A)
	case api.CReturn:
		m.giveBack(f.Regs[o.A])
	default:
		m.plain(f.Regs, o)
		f.PC++
	}
}

// plain does an order behind which the next one comes, with the registers at work.
func (m *Machine) plain(r []api.Value, o api.Instr) {
	switch o.Op {
	case api.CMove:
		r[o.A] = r[o.B]
	case api.CConst:
		r[o.A] = m.Funs[m.Top().Fun].Consts[o.B]
	case api.CNew:
		r[o.A] = m.NewTable()
	case api.CGet:
		r[o.A] = m.Get(r[o.B], r[o.C])
	case api.CSet:
		m.Set(r[o.A], r[o.B], r[o.C])
	case api.CLen:
		r[o.A] = m.Len(r[o.B])
	case api.CNext:
		r[o.A] = m.Next(r[o.B], r[o.C])
	case api.CEmit:
		m.Tell(r[o.A])
	case api.COp + api.OpNot, api.COp + api.OpNeg:
		r[o.A] = m.Op(o.Op-api.COp, r[o.B], api.Value{})
	default:
		r[o.A] = m.Op(o.Op-api.COp, r[o.B], r[o.C])
	}
}

// call begins a call of a function with arguments, which stand behind it. The frame at work is moved on first: it lies elsewhere, when there is one more.
func (m *Machine) call(with []api.Value, dest int) {
	refuse(with[0].Kind != api.VFun, api.ErrKind)
	refuse(len(m.Frames) == api.MaxCalls, api.ErrSize)
	f := m.frame(int(with[0].N))
	f.Dest = dest
	copy(f.Regs[:m.Funs[f.Fun].Params], with[1:])
	m.Top().PC++
	m.Frames = append(m.Frames, f)
}

// giveBack ends the call at work with its answer; the first call's frame stays.
func (m *Machine) giveBack(answer api.Value) {
	last := len(m.Frames) - 1
	if last == 0 {
		m.End, m.Last = api.EndDone, answer
		return
	}
	dest := m.Frames[last].Dest
	m.Frames = m.Frames[:last]
	m.Top().Regs[dest] = answer
}
