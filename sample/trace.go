package sample

import "packtrail/api"

// Trace is the trace of a number of a program that may be, by a fixed rule. Each of them may be (J1); its orders ask mostly for values of the right kinds.
func Trace(p api.Code, number int) api.Trace {
	w := newTracer(p, number)
	for range w.roll(20) {
		w.step()
	}
	w.end()
	return w.Trace
}

// tracer makes a trace of a function.
type tracer struct {
	dice
	api.Fn
	api.Trace
	funs  int   // how many functions the program has
	rare  int   // of so many orders that are asked for one is of any kind
	kinds []int // of each order what its value mostly is
}

func newTracer(p api.Code, number int) *tracer {
	d := dice(number)
	fun := d.roll(len(p.Funs))
	w := &tracer{dice: d, Fn: p.Funs[fun], funs: len(p.Funs), rare: 4 << (uint(number) % 4)}
	w.Trace = api.Trace{Fun: fun, Head: w.roll(len(w.Code))}
	return w
}

// end makes the last snapshot.
func (w *tracer) end() {
	end := w.snap()
	end.PC, end.Steps = w.Head, end.Steps+1
	for _, s := range w.Snaps {
		end.Steps = max(end.Steps, s.Steps)
	}
	w.Snaps = append(w.Snaps, end)
}

// What an order's value is, beside the kinds of values.
const (
	anyKind = -1
	noValue = -2
)

// step makes an order, and those that it needs ahead of it.
func (w *tracer) step() {
	switch w.roll(16) {
	case 0, 1:
		w.fresh(anyKind)
	case 2:
		w.fresh(api.VInt)
	case 3:
		w.leaves(api.TNew, api.VTable)
	case 4, 5:
		w.leaves(api.TGet, anyKind, w.of(api.VTable), w.of(w.key()))
	case 6, 7:
		w.leaves(api.TSet, noValue, w.of(api.VTable), w.of(w.key()), w.of(anyKind))
	case 8:
		w.leaves(api.TLen, api.VInt, w.of(api.VTable-w.roll(2)))
	case 9:
		w.leaves(api.TNext, anyKind, w.of(api.VTable), w.of(w.key()))
	case 10:
		w.add(api.Ins{Op: api.TEmit, X: w.of(anyKind), Snap: -1}, noValue)
	case 11, 12:
		w.guard()
	default:
		w.operate(api.OpAdd + w.roll(api.OpNeg))
	}
}

// key is a kind that keys are often of.
func (w *tracer) key() int {
	return []int{api.VInt, api.VInt, api.VText, api.VNil, anyKind}[w.roll(5)]
}

// guard makes an order that asks for a kind, or for the truth; behind it the value is mostly of that kind.
func (w *tracer) guard() {
	x := w.of(anyKind)
	switch w.roll(4) {
	case 0:
		w.leaves(api.TTrue, noValue, x)
	case 1:
		w.leaves(api.TFalse, noValue, w.of(api.VBool))
	default:
		kind := w.kinds[x]
		if kind == anyKind {
			kind = []int{api.VInt, api.VInt, api.VText, api.VTable, w.roll(api.VFun + 1)}[w.roll(5)]
		}
		w.leaves(api.TKind, noValue, x, kind)
		w.kinds[x] = kind
	}
}

func (w *tracer) operate(op int) {
	switch kind := api.VInt + w.roll(2); op {
	case api.OpNot:
		w.leaves(api.TOp+op, api.VBool, w.of(anyKind))
	case api.OpNeg:
		w.leaves(api.TOp+op, api.VInt, w.of(api.VInt))
	case api.OpSame:
		w.leaves(api.TOp+op, api.VBool, w.of(anyKind), w.of(anyKind))
	case api.OpLess, api.OpMost:
		w.leaves(api.TOp+op, api.VBool, w.of(kind), w.of(kind))
	case api.OpCat:
		w.leaves(api.TOp+op, api.VText, w.of(kind), w.of(api.VText))
	default:
		w.leaves(api.TOp+op, api.VInt, w.of(api.VInt), w.of(api.VInt))
	}
}

// of gives an order whose value is mostly of a kind, but for the rare one; it makes one, if there is none.
func (w *tracer) of(kind int) int {
	if w.roll(w.rare) == 0 {
		kind = anyKind
	}
	var fit []int
	for n, k := range w.kinds {
		if k == kind || kind == anyKind && k != noValue {
			fit = append(fit, n)
		}
	}
	if len(fit) == 0 || w.roll(6) == 0 {
		return w.fresh(kind)
	}
	return fit[w.roll(len(fit))]
}

// fresh makes an order whose value is of a kind.
func (w *tracer) fresh(kind int) int {
	switch kind {
	case anyKind:
		return w.add(api.Ins{Op: api.TReg, X: w.roll(w.Regs), Snap: -1}, anyKind)
	case api.VTable:
		return w.leaves(api.TNew, api.VTable)
	}
	v := w.constant(w.funs)
	for v.Kind != kind {
		v = w.constant(w.funs)
	}
	return w.add(api.Ins{Op: api.TVal, V: v, Snap: -1}, kind)
}

// leaves makes an order by whose snapshot the trace may be left: mostly a new one.
func (w *tracer) leaves(op, kind int, fields ...int) int {
	if len(w.Snaps) == 0 || w.roll(3) > 0 {
		w.Snaps = append(w.Snaps, w.snap())
	}
	all := append(fields, 0, 0, 0)
	o := api.Ins{Op: op, X: all[0], Y: all[1], Z: all[2], Snap: len(w.Snaps) - 1}
	if w.roll(4) == 0 {
		o.Snap = w.roll(len(w.Snaps))
	}
	return w.add(o, kind)
}

// add puts an order behind all others.
func (w *tracer) add(o api.Ins, kind int) int {
	w.Ins = append(w.Ins, o)
	w.kinds = append(w.kinds, kind)
	return len(w.Ins) - 1
}

// snap is a snapshot that needs no more than the orders that are there.
func (w *tracer) snap() api.Snap {
	s := api.Snap{PC: w.roll(len(w.Code)), Steps: w.roll(12)}
	for range w.Regs {
		n := w.roll(len(w.Ins)+1) - 1
		if n >= 0 && (w.kinds[n] == noValue || w.roll(3) == 0) {
			n = -1
		}
		s.Regs = append(s.Regs, n)
	}
	return s
}
