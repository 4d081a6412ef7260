package value

import (
	"cmp"

	"packtrail/api"
)

// Op does an operation (A3).
func Op(op int, a, b api.Value) (api.Value, api.Errno) {
	if op < api.OpAdd || op > api.OpNeg || !May(a) || !May(b) {
		return api.Value{}, api.ErrForm
	}
	switch op {
	case api.OpNot:
		return Boolean(!Truth(a)), api.OK
	case api.OpNeg:
		return reckon(api.OpSub, Number(0), a)
	case api.OpSame:
		return Boolean(a == b), api.OK
	case api.OpLess, api.OpMost:
		return inOrder(op, a, b)
	case api.OpCat:
		return join(a, b)
	}
	return reckon(op, a, b)
}

func inOrder(op int, a, b api.Value) (api.Value, api.Errno) {
	both := each(a, b)
	var way int
	switch {
	case both(api.VInt):
		way = cmp.Compare(a.N, b.N)
	case both(api.VText):
		way = cmp.Compare(a.S, b.S)
	default:
		return api.Value{}, api.ErrKind
	}
	return Boolean(way < 0 || way == 0 && op == api.OpMost), api.OK
}

func join(a, b api.Value) (api.Value, api.Errno) {
	if !each(a, b)(api.VInt, api.VText) {
		return api.Value{}, api.ErrKind
	}
	s := Text(a) + Text(b)
	if len(s) > api.MaxLong {
		return api.Value{}, api.ErrSize
	}
	return api.Value{Kind: api.VText, S: s}, api.OK
}

func reckon(op int, a, b api.Value) (api.Value, api.Errno) {
	if !each(a, b)(api.VInt) {
		return api.Value{}, api.ErrKind
	}
	switch op {
	case api.OpAdd:
		return Number(a.N + b.N), api.OK
	case api.OpSub:
		return Number(a.N - b.N), api.OK
	case api.OpMul:
		return Number(a.N * b.N), api.OK
	}
	if b.N == 0 {
		return api.Value{}, api.ErrZero
	}
	q := floorDiv(a.N, b.N)
	if op == api.OpDiv {
		return Number(q), api.OK
	}
	return Number(a.N - q*b.N), api.OK
}

// floorDiv rounds down, where Go's own division rounds towards nought; b is not 0.
func floorDiv(a, b int64) int64 {
	q := a / b
	if a%b != 0 && (a < 0) != (b < 0) {
		q--
	}
	return q
}
