package model

import (
	"packtrail/api"
	"packtrail/check"
	"packtrail/table"
	"packtrail/value"
)

// call is one of a function that goes on, of a run.
type call struct {
	*run
	locals [api.MaxLocals]api.Value // by their slots
}

// block does statements, one behind the other.
func (c *call) block(p check.Part) {
	for _, s := range p.Kids {
		c.stat(s)
	}
}

// stat does a statement.
func (c *call) stat(p check.Part) {
	c.step()
	switch p.Kind {
	case api.NLocal:
		c.locals[p.Slot] = c.expr(p.Kids[0])
	case api.NSet:
		c.set(p.Kids[0], p.Kids[1])
	case api.NDo:
		c.expr(p.Kids[0])
	case api.NIf:
		c.choose(p)
	case api.NWhile:
		for c.holds(p.Kids[0]) {
			c.block(p.Body())
		}
	case api.NFor:
		c.count(p)
	case api.NEmit:
		text := told(c.expr(p.Kids[0])) // by itself: Out may grow while the expression is done
		c.Out = append(c.Out, text)
	case api.NReturn:
		panic(returned{c.expr(p.Kids[0])})
	}
}

// set does an expression, and puts its value in a place, which is no expression itself, and no step.
func (c *call) set(place, from check.Part) {
	if place.Kind == api.NName {
		c.locals[place.Slot] = c.expr(from)
		return
	}
	at, k := c.both(place)
	v := c.expr(from)
	t := c.table(at)
	changed, code := table.Set(*t, k, v)
	c.need(code)
	*t = changed
}

// choose does one of an NIf's blocks, if there is one for what holds.
func (c *call) choose(p check.Part) {
	if c.holds(p.Kids[0]) {
		c.block(p.Kids[1])
	} else if len(p.Kids) > 2 {
		c.block(p.Kids[2])
	}
}

// count does an NFor. The last number may be the greatest there is: nothing is counted beyond it.
func (c *call) count(p check.Part) {
	first, last := c.both(p)
	c.refuse(first.Kind != api.VInt || last.Kind != api.VInt, api.ErrKind)
	if first.N > last.N {
		return
	}
	for i := first.N; ; i++ {
		c.step()
		c.locals[p.Slot] = value.Number(i)
		c.block(p.Body())
		if i == last.N {
			return
		}
	}
}

// expr does an expression, and gives its value.
func (c *call) expr(p check.Part) api.Value {
	c.step()
	switch p.Kind {
	case api.NInt:
		return value.Number(p.Num)
	case api.NText:
		return api.Value{Kind: api.VText, S: p.Text}
	case api.NTrue, api.NFalse:
		return value.Boolean(p.Kind == api.NTrue)
	case api.NName:
		return c.named(p.Slot)
	case api.NNew:
		return c.newTable()
	case api.NIndex:
		at, k := c.both(p)
		return table.Get(*c.table(at), k)
	case api.NCall:
		f, args := c.expr(p.Kids[0]), c.all(p.Kids[1:])
		return c.call(f, args)
	case api.NOp, api.NNot, api.NNeg:
		first := c.expr(p.Kids[0])
		return c.operation(p)(first)
	case api.NLen:
		return value.Number(int64(c.length(c.expr(p.Kids[0]))))
	case api.NNext:
		return c.next(p)
	}
	return api.Value{}
}

// holds tells what a condition is taken for.
func (c *call) holds(p check.Part) bool {
	return value.Truth(c.expr(p))
}

// both does the first two kids.
func (c *call) both(p check.Part) (first, second api.Value) {
	first = c.expr(p.Kids[0])
	second = c.expr(p.Kids[1])
	return first, second
}

// all does expressions that stand side by side.
func (c *call) all(parts []check.Part) []api.Value {
	var vs []api.Value
	for _, p := range parts {
		vs = append(vs, c.expr(p))
	}
	return vs
}

// named is what a name's slot says: a local, or, behind all of these, a function.
func (c *call) named(slot int) api.Value {
	if slot < api.MaxLocals {
		return c.locals[slot]
	}
	return function(slot - api.MaxLocals)
}

// next does an NNext.
func (c *call) next(p check.Part) api.Value {
	at, k := c.both(p)
	behind, code := table.Next(*c.table(at), k)
	c.need(code)
	return behind
}

// operation is what becomes of the first kid's value. It does the second kid itself: OpAnd and OpOr may go without.
func (c *call) operation(p check.Part) func(first api.Value) api.Value {
	switch {
	case p.Kind == api.NNot:
		return func(first api.Value) api.Value { return c.operate(api.OpNot, first, api.Value{}) }
	case p.Kind == api.NNeg:
		return func(first api.Value) api.Value { return c.operate(api.OpNeg, first, api.Value{}) }
	case p.Num == api.OpAnd, p.Num == api.OpOr:
		return func(first api.Value) api.Value {
			if value.Truth(first) == (p.Num == api.OpOr) {
				return first
			}
			return c.expr(p.Kids[1])
		}
	}
	return func(first api.Value) api.Value { return c.operate(int(p.Num), first, c.expr(p.Kids[1])) }
}

// operate does an operation of two values.
func (c *call) operate(op int, a, b api.Value) api.Value {
	v, code := value.Op(op, a, b)
	c.need(code)
	return v
}
