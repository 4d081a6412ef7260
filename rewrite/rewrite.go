// Package rewrite makes a trace anew, order by order, for those who better it.
package rewrite

import (
	"strings"

	"packtrail/api"
	"packtrail/trace"
)

// Gone stands for an order that is there no longer: no order asks for it, and no snapshot by which the trace may be left or ends.
const Gone = -1

// noSnap stands in an order by which a trace is never left.
const noSnap = -1

// asBegun stands in a snapshot for a register that is as the round began.
const asBegun = -1

// Maker makes the trace that it embeds of another one.
type Maker struct {
	api.Trace
	now []int // of each order of the other trace that was gone over the number of the one in its place here
}

// Each makes a trace of another one that may be, in memory of its own. What becomes of each order is said by a closure: it gets the order, which asks for orders that are here already, and answers the number of the one in its place, or Gone.
func Each(t api.Trace, become func(m *Maker, o api.Ins) int) api.Trace {
	m := &Maker{Trace: api.Trace{Fun: t.Fun, Head: t.Head}}
	for _, o := range t.Ins {
		for _, n := range trace.Asked(&o) {
			*n = m.now[*n]
		}
		m.now = append(m.now, become(m, o))
	}
	for _, s := range t.Snaps {
		m.Snaps = append(m.Snaps, m.snap(s))
	}
	return m.Trace
}

// Add puts an order behind all others, and gives its number.
func (m *Maker) Add(o api.Ins) int {
	o.V.S = strings.Clone(o.V.S)
	m.Ins = append(m.Ins, o)
	return len(m.Ins) - 1
}

// Val is an order that has a value.
func Val(v api.Value) api.Ins {
	return api.Ins{Op: api.TVal, V: v, Snap: noSnap}
}

// snap is a snapshot of the other trace, for this one. Where nobody leaves by it, it may name an order that is gone: it then names none.
func (m *Maker) snap(s api.Snap) api.Snap {
	regs := make([]int, len(s.Regs))
	for reg, n := range s.Regs {
		regs[reg] = asBegun
		if n != asBegun && m.now[n] != Gone {
			regs[reg] = m.now[n]
		}
	}
	s.Regs = regs
	return s
}
