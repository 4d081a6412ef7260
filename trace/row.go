package trace

import "packtrail/api"

// field asks whether a number may stand in a field of the order that is asked.
type field func(c *checker, n int) bool

// row is what the document's table says of an order.
type row struct {
	fields []field // the questions to those of X, Y and Z that it names, X's first
	v      bool    // whether it names V
	snap   bool    // whether it names Snap
	gives  bool    // whether it has a value
}

// rowOf is the row of an order, if there is such an order.
func rowOf(op int) (row, bool) {
	one := []field{(*checker).ahead}
	two := []field{(*checker).ahead, (*checker).ahead}
	switch op {
	case api.TReg:
		return row{fields: []field{(*checker).register}, gives: true}, true
	case api.TVal:
		return row{v: true, gives: true}, true
	case api.TNew:
		return row{snap: true, gives: true}, true
	case api.TGet, api.TNext:
		return row{fields: two, snap: true, gives: true}, true
	case api.TSet:
		return row{fields: append(two, (*checker).ahead), snap: true}, true
	case api.TLen, api.TOp + api.OpNot, api.TOp + api.OpNeg:
		return row{fields: one, snap: true, gives: true}, true
	case api.TEmit:
		return row{fields: one}, true
	case api.TKind:
		return row{fields: append(one, (*checker).kind), snap: true}, true
	case api.TTrue, api.TFalse:
		return row{fields: one, snap: true}, true
	}
	if from(api.TOp+api.OpAdd, op, api.TOp+api.OpMost) {
		return row{fields: two, snap: true, gives: true}, true
	}
	return row{}, false
}
