package trace

import "packtrail/api"

// field asks whether a number may stand in a field of the order that is asked.
type field func(c *checker, n int) bool

// row is what the document's table says of an order.
type row struct {
	asks  int   // how many of X, Y and Z, X first, are numbers of orders ahead
	then  field // the question to the field behind those, if it names that one, too
	v     bool  // whether it names V
	snap  bool  // whether it names Snap
	gives bool  // whether it has a value
}

// rowOf is the row of an order, if there is such an order.
func rowOf(op int) (row, bool) {
	switch op {
	case api.TReg:
		return row{then: (*checker).register, gives: true}, true
	case api.TVal:
		return row{v: true, gives: true}, true
	case api.TNew:
		return row{snap: true, gives: true}, true
	case api.TGet, api.TNext:
		return row{asks: 2, snap: true, gives: true}, true
	case api.TSet:
		return row{asks: 3, snap: true}, true
	case api.TLen, api.TOp + api.OpNot, api.TOp + api.OpNeg:
		return row{asks: 1, snap: true, gives: true}, true
	case api.TEmit:
		return row{asks: 1}, true
	case api.TKind:
		return row{asks: 1, then: (*checker).kind, snap: true}, true
	case api.TTrue, api.TFalse:
		return row{asks: 1, snap: true}, true
	}
	if from(api.TOp+api.OpAdd, op, api.TOp+api.OpMost) {
		return row{asks: 2, snap: true, gives: true}, true
	}
	return row{}, false
}

// Asks is how many of an order's fields X, Y and Z, X first, are numbers of orders ahead; none, if there is no such order.
func Asks(op int) int {
	row, _ := rowOf(op)
	return row.asks
}

// Asked are the fields of an order that are numbers of orders ahead, X first.
func Asked(o *api.Ins) []*int {
	return []*int{&o.X, &o.Y, &o.Z}[:Asks(o.Op)]
}
