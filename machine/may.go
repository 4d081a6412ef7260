package machine

import (
	"packtrail/api"
	"packtrail/table"
	"packtrail/value"
)

// mayFrames asks of a program that may be.
func (m *Machine) mayFrames() bool {
	if !from(1, len(m.Frames), api.MaxCalls) {
		return false
	}
	dests := 1 // the first frame has none below it, and 0 alone for Dest
	for _, f := range m.Frames {
		if !below(f.Dest, dests) || !m.mayFrame(f) {
			return false
		}
		dests = len(f.Regs)
	}
	return true
}

func (m *Machine) mayFrame(f api.Frame) bool {
	if !below(f.Fun, len(m.Funs)) {
		return false
	}
	fun := m.Funs[f.Fun]
	return below(f.PC, len(fun.Code)) && len(f.Regs) == fun.Regs && m.mayAll(f.Regs)
}

func (m *Machine) mayTables() bool {
	if len(m.Tables) > api.MaxTables {
		return false
	}
	for _, t := range m.Tables {
		if !table.May(t) || !m.mayAll(t.Keys) || !m.mayAll(t.Vals) {
			return false
		}
	}
	return true
}

func (m *Machine) mayAll(vs []api.Value) bool {
	for _, v := range vs {
		if !m.mayValue(v) {
			return false
		}
	}
	return true
}

// mayValue asks whether a value may be, and names what is there.
func (m *Machine) mayValue(v api.Value) bool {
	switch v.Kind {
	case api.VTable:
		return value.May(v) && v.N < int64(len(m.Tables))
	case api.VFun:
		return value.May(v) && v.N < int64(len(m.Funs))
	}
	return value.May(v)
}

// mayTold asks of the steps, and of what was told in them.
func (m *Machine) mayTold() bool {
	if !from(0, m.Steps, api.MaxFuel) || len(m.Out) > m.Steps {
		return false
	}
	for _, text := range m.Out {
		if len(text) > api.MaxLong {
			return false
		}
	}
	return true
}

// mayEnd asks of how the run ended, and of what goes with it.
func (m *Machine) mayEnd() bool {
	nothing := m.Last == api.Value{}
	switch m.End {
	case api.EndFuel:
		return m.Err == api.OK && nothing
	case api.EndDone:
		return m.Err == api.OK && m.mayValue(m.Last)
	case api.EndFailed:
		return mayFail(m.Err) && nothing
	}
	return false
}

// mayFail tells whether an order may fail so.
func mayFail(code api.Errno) bool {
	switch code {
	case api.ErrSize, api.ErrKind, api.ErrName, api.ErrZero:
		return true
	}
	return false
}

func below(n, end int) bool { return n >= 0 && n < end }

func from(first, n, last int) bool { return n >= first && n <= last }
