package compile

import (
	"slices"

	"packtrail/api"
	"packtrail/check"
)

// maker makes the function that it embeds. Registers are taken one behind the other, and given back from the last one on.
type maker struct {
	api.Fn
	used   int                // how many registers are taken
	places [api.MaxLocals]int // the registers of the locals that are there, by their slots
}

// take gives the next register.
func (m *maker) take() int {
	next := m.used
	m.used++
	m.Regs = max(m.Regs, m.used)
	return next
}

// awhile does something, and then gives back the registers that were taken for it.
func (m *maker) awhile(do func()) {
	before := m.used
	do()
	m.used = before
}

// declare takes the register of the local that a part makes.
func (m *maker) declare(p check.Part) int {
	at := m.take()
	m.places[p.Slot] = at
	return at
}

// order puts one behind all others, and gives its number.
func (m *maker) order(op, a, b, c int) int {
	m.Code = append(m.Code, api.Instr{Op: op, A: a, B: b, C: c})
	return len(m.Code) - 1
}

// land makes an order that goes on elsewhere go on at the next one that is made.
func (m *maker) land(number int) {
	o, next := &m.Code[number], len(m.Code)
	if o.Op == api.CTest {
		o.B = next
	} else {
		o.A = next
	}
}

// constant puts a value that is known into a register.
func (m *maker) constant(v api.Value, to int) {
	number := slices.Index(m.Consts, v)
	if number < 0 {
		number = len(m.Consts)
		m.Consts = append(m.Consts, v)
	}
	m.order(api.CConst, to, number, 0)
}
