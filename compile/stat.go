package compile

import (
	"packtrail/api"
	"packtrail/check"
	"packtrail/value"
)

// block makes statements; the registers of its locals are given back behind it.
func (m *maker) block(p check.Part) {
	m.awhile(func() {
		for _, s := range p.Kids {
			m.stat(s)
		}
	})
}

// stat makes a statement.
func (m *maker) stat(p check.Part) {
	if p.Kind == api.NLocal {
		m.expr(p.Kids[0], m.declare(p))
		return
	}
	m.awhile(func() {
		switch p.Kind {
		case api.NSet:
			m.set(p.Kids[0], p.Kids[1])
		case api.NDo:
			m.expr(p.Kids[0], m.take())
		case api.NIf:
			m.choose(p)
		case api.NWhile:
			m.while(p)
		case api.NFor:
			m.count(p)
		case api.NEmit:
			m.order(api.CEmit, m.operand(p.Kids[0]), 0, 0)
		case api.NReturn:
			m.order(api.CReturn, m.operand(p.Kids[0]), 0, 0)
		}
	})
}

// set makes an NSet.
func (m *maker) set(place, from check.Part) {
	if place.Kind == api.NName {
		m.change(m.places[place.Slot], from)
		return
	}
	t, k, v := m.operand(place.Kids[0]), m.operand(place.Kids[1]), m.operand(from)
	m.order(api.CSet, t, k, v)
}

// change gives a local its new value. It stays as it was, till nothing asks for that any more: of OpAnd and OpOr the second kid still may, when the first one's value is there.
func (m *maker) change(local int, from check.Part) {
	if lazy(from) {
		m.order(api.CMove, local, m.operand(from), 0)
		return
	}
	m.expr(from, local)
}

// choose makes an NIf.
func (m *maker) choose(p check.Part) {
	out := m.test(p.Kids[0])
	m.block(p.Kids[1])
	if len(p.Kids) > 2 {
		other := out
		out = m.order(api.CJump, 0, 0, 0)
		m.land(other)
		m.block(p.Kids[2])
	}
	m.land(out)
}

// while makes an NWhile.
func (m *maker) while(p check.Part) {
	head := len(m.Code)
	out := m.test(p.Kids[0])
	m.block(p.Body())
	m.order(api.CLoop, head, 0, 0)
	m.land(out)
}

// count makes an NFor. Nobody else sets its variable, which counts the rounds itself; whether there is one more is asked ahead of counting on, as the last number may be the greatest there is.
func (m *maker) count(p check.Part) {
	first, last, spare := m.declare(p), m.take(), m.take()
	m.expr(p.Kids[0], first)
	m.expr(p.Kids[1], last)
	m.order(api.COp+api.OpAdd, spare, first, last) // for its failure alone: OpMost would take two texts
	m.order(api.COp+api.OpMost, spare, first, last)
	none := m.order(api.CTest, spare, 0, 0)
	head := len(m.Code)
	m.block(p.Body())
	m.order(api.COp+api.OpLess, spare, first, last)
	out := m.order(api.CTest, spare, 0, 0)
	m.constant(value.Number(1), spare)
	m.order(api.COp+api.OpAdd, first, first, spare)
	m.order(api.CLoop, head, 0, 0)
	m.land(none)
	m.land(out)
}

// test makes a condition, and gives the number of the order that goes elsewhere, where it does not hold.
func (m *maker) test(p check.Part) (number int) {
	m.awhile(func() { number = m.order(api.CTest, m.operand(p), 0, 0) })
	return number
}
