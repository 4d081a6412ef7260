package trace

import (
	"packtrail/api"
	"packtrail/value"
)

// checker asks of a trace whether it may be, with the function that it is of.
type checker struct {
	api.Trace
	api.Fn
	funs  int    // how many functions the program has
	gives []bool // of each order that was asked already, whether it has a value
}

// mayHead asks where the round begins, and how many of all things the trace has.
func (c *checker) mayHead() bool {
	return below(c.Head, len(c.Code)) && len(c.Ins) <= api.MaxIns && from(1, len(c.Snaps), api.MaxSnaps)
}

// maySnaps asks of the snapshots what does not hang on the orders.
func (c *checker) maySnaps() bool {
	last := c.Snaps[len(c.Snaps)-1]
	for _, s := range c.Snaps {
		if !below(s.PC, len(c.Code)) || !from(0, s.Steps, min(last.Steps, api.MaxFuel)) || len(s.Regs) != c.Regs {
			return false
		}
	}
	return last.PC == c.Head && last.Steps >= 1
}

func (c *checker) mayOrders() bool {
	for _, o := range c.Ins {
		row, is := rowOf(o.Op)
		if !is || !c.mayFields(o, row) || !c.mayV(o.V, row.v) || !c.mayLeave(o.Snap, row.snap) {
			return false
		}
		c.gives = append(c.gives, row.gives)
	}
	return true
}

func (c *checker) mayFields(o api.Ins, row row) bool {
	for i, n := range [...]int{o.X, o.Y, o.Z} {
		if !c.mayField(i, n, row) {
			return false
		}
	}
	return true
}

// mayField asks of a number in the field of a place among X, Y and Z.
func (c *checker) mayField(place, n int, row row) bool {
	switch {
	case place < row.asks:
		return c.ahead(n)
	case place == row.asks && row.then != nil:
		return row.then(c, n)
	}
	return n == 0
}

// mayV asks of a value that is named, or else is nothing.
func (c *checker) mayV(v api.Value, named bool) bool {
	switch {
	case !named:
		return v == api.Value{}
	case v.Kind == api.VFun && v.N >= int64(c.funs):
		return false
	}
	return value.May(v) && v.Kind != api.VTable
}

// mayLeave asks of the snapshot by which the trace is left at the order that is asked: all that it needs was done by then.
func (c *checker) mayLeave(snap int, named bool) bool {
	if !named {
		return snap == -1
	}
	return below(snap, len(c.Snaps)-1) && c.mayNeed(c.Snaps[snap])
}

// mayAllNeed asks of all snapshots, behind all orders.
func (c *checker) mayAllNeed() bool {
	for _, s := range c.Snaps {
		if !c.mayNeed(s) {
			return false
		}
	}
	return true
}

// mayNeed asks whether the orders that were asked already have all values that a snapshot needs.
func (c *checker) mayNeed(s api.Snap) bool {
	for _, n := range s.Regs {
		if n != -1 && !c.ahead(n) {
			return false
		}
	}
	return true
}

// ahead asks for an order that was asked already, and has a value.
func (c *checker) ahead(n int) bool { return below(n, len(c.gives)) && c.gives[n] }

func (c *checker) register(n int) bool { return below(n, c.Regs) }

func (c *checker) kind(n int) bool { return from(api.VNil, n, api.VFun) }
