package compile

import (
	"packtrail/api"
	"packtrail/check"
	"packtrail/value"
)

// expr puts an expression's value into a register, by its last order alone, if it is not lazy.
func (m *maker) expr(p check.Part, to int) {
	m.awhile(func() {
		switch p.Kind {
		case api.NName:
			m.name(p.Slot, to)
		case api.NNew:
			m.order(api.CNew, to, 0, 0)
		case api.NIndex:
			m.both(api.CGet, p, to)
		case api.NNext:
			m.both(api.CNext, p, to)
		case api.NCall:
			m.call(p, to)
		case api.NOp:
			m.operation(p, to)
		case api.NNot:
			m.order(api.COp+api.OpNot, to, m.operand(p.Kids[0]), 0)
		case api.NNeg:
			m.order(api.COp+api.OpNeg, to, m.operand(p.Kids[0]), 0)
		case api.NLen:
			m.order(api.CLen, to, m.operand(p.Kids[0]), 0)
		default:
			m.constant(literal(p), to)
		}
	})
}

// operand gives a register that has an expression's value: of a local its own, as no expression changes a local, else one that is taken.
func (m *maker) operand(p check.Part) int {
	if p.Kind == api.NName && p.Slot < api.MaxLocals {
		return m.places[p.Slot]
	}
	to := m.take()
	m.expr(p, to)
	return to
}

// name makes what a name's slot says: a local, or, behind all of these, a function.
func (m *maker) name(slot, to int) {
	if slot < api.MaxLocals {
		m.order(api.CMove, to, m.places[slot], 0)
		return
	}
	m.constant(api.Value{Kind: api.VFun, N: int64(slot - api.MaxLocals)}, to)
}

// both makes an order of the values of two kids.
func (m *maker) both(op int, p check.Part, to int) {
	first, second := m.operand(p.Kids[0]), m.operand(p.Kids[1])
	m.order(op, to, first, second)
}

// call makes an NCall: what is called and the arguments stand one behind the other.
func (m *maker) call(p check.Part, to int) {
	called := m.used
	for _, kid := range p.Kids {
		m.expr(kid, m.take())
	}
	m.order(api.CCall, to, called, len(p.Kids)-1)
}

// operation makes an NOp.
func (m *maker) operation(p check.Part, to int) {
	if !lazy(p) {
		m.both(api.COp+int(p.Num), p, to)
		return
	}
	m.expr(p.Kids[0], to)
	out := m.order(api.CTest, to, 0, 0)
	if p.Num == api.OpOr {
		second := out
		out = m.order(api.CJump, 0, 0, 0)
		m.land(second)
	}
	m.expr(p.Kids[1], to)
	m.land(out)
}

// lazy tells whether an expression does its second kid only where that is asked for.
func lazy(p check.Part) bool {
	return p.Kind == api.NOp && (p.Num == api.OpAnd || p.Num == api.OpOr)
}

// literal is the value that an expression is by itself.
func literal(p check.Part) api.Value {
	switch p.Kind {
	case api.NInt:
		return value.Number(p.Num)
	case api.NText:
		return api.Value{Kind: api.VText, S: p.Text}
	case api.NTrue, api.NFalse:
		return value.Boolean(p.Kind == api.NTrue)
	}
	return api.Value{}
}
