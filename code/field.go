package code

import "packtrail/api"

// place is where an order stands.
type place struct {
	api.Fn
	api.Instr
	at int
}

// field asks whether a number may stand in a field of the order at a place.
type field func(place, int) bool

// fields has the questions to the fields that an order names, A's first; none, if there is no such order.
func fields(op int) []field {
	switch op {
	case api.CMove, api.CLen, api.COp + api.OpNot, api.COp + api.OpNeg:
		return []field{place.register, place.register}
	case api.CConst:
		return []field{place.register, place.constant}
	case api.CNew, api.CReturn, api.CEmit:
		return []field{place.register}
	case api.CGet, api.CSet, api.CNext:
		return []field{place.register, place.register, place.register}
	case api.CJump:
		return []field{place.order}
	case api.CTest:
		return []field{place.register, place.order}
	case api.CLoop:
		return []field{place.back}
	case api.CCall:
		return []field{place.register, place.register, place.arguments}
	}
	if from(api.COp+api.OpAdd, op, api.COp+api.OpMost) {
		return []field{place.register, place.register, place.register}
	}
	return nil
}

func (p place) register(n int) bool { return below(n, p.Regs) }

func (p place) constant(n int) bool { return below(n, len(p.Consts)) }

func (p place) order(n int) bool { return below(n, len(p.Code)) }

func (p place) back(n int) bool { return from(0, n, p.at) }

// arguments adds to B, which was asked ahead of C, and is a register: the sum does not wrap round.
func (p place) arguments(n int) bool {
	return from(0, n, api.MaxParams) && p.register(p.B+n)
}
