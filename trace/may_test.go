package trace_test

import (
	"math"
	"slices"
	"strings"
	"testing"

	"packtrail/api"
	"packtrail/sample"
	"packtrail/trace"
)

// far are numbers at the ends of all that there are.
var far = []int{math.MinInt, math.MinInt + 1, math.MaxInt - 1, math.MaxInt}

// full is a trace of program's main with an order of each kind; its snapshots are by hand.
func full() api.Trace {
	return api.Trace{Fun: 1, Head: 2, Ins: []api.Ins{
		ins(api.TReg, -1, 2),
		val(num(7)),
		ins(api.TNew, 0),
		ins(api.TGet, 0, 2, 1),
		ins(api.TSet, 0, 2, 1, 0),
		ins(api.TLen, 1, 2),
		ins(api.TNext, 1, 2, 1),
		ins(api.TEmit, -1, 6),
		ins(api.TKind, 1, 0, api.VInt),
		ins(api.TTrue, 1, 1),
		ins(api.TFalse, 1, 3),
		ins(api.TOp+api.OpAdd, 1, 0, 1),
		ins(api.TOp+api.OpNot, 1, 3),
		ins(api.TOp+api.OpNeg, 1, 1),
	}, Snaps: []api.Snap{
		{PC: 2, Regs: []int{-1, -1, -1, -1, -1, -1}},
		{PC: 4, Steps: 9, Regs: []int{0, -1, 3, 1, 2, 0}},
		{PC: 2, Steps: 9, Regs: []int{13, -1, 12, 0, -1, 2}},
	}}
}

// may changes the trace full, and asks whether that may be.
func may(t *testing.T, what string, want bool, change func(r *api.Trace)) {
	t.Helper()
	r := full()
	change(&r)
	if trace.May(program(), r) != want {
		t.Errorf("%s: May is %v: %+v", what, !want, r)
	}
}

// J1: the program itself may be.
func TestMayProgram(t *testing.T) {
	may(t, "as it is", true, func(*api.Trace) {})
	wrong := program()
	wrong.Main = 0
	other := program()
	other.Funs[2].Regs = 0
	for _, p := range []api.Code{{}, wrong, other, {Funs: program().Funs[:1]}} {
		if trace.May(p, full()) {
			t.Errorf("May of %v", p)
		}
	}
	if trace.May(program(), api.Trace{}) || trace.May(api.Code{}, api.Trace{}) {
		t.Error("May of nothing")
	}
}

// J1: Fun is a function of the program, Head one of that function's orders.
func TestMayHead(t *testing.T) {
	for _, n := range append(far, -1, 0, 1, 2, 3, 4) {
		may(t, "Fun", n == 1, func(r *api.Trace) { r.Fun = n })
		short := api.Trace{Fun: n, Snaps: []api.Snap{{Steps: 1, Regs: make([]int, 4)}}}
		for i := range short.Snaps[0].Regs {
			short.Snaps[0].Regs[i] = -1
		}
		if trace.May(program(), short) != (n == 0) {
			t.Errorf("Fun %d of a short one", n)
		}
	}
	for _, n := range append(far, -1, 0, 1, 2, 3, 4, 5, 6) {
		may(t, "Head", n >= 0 && n < 5, func(r *api.Trace) { r.Head, r.Snaps[2].PC = n, n })
		may(t, "Head elsewhere than the end", n == 2, func(r *api.Trace) { r.Head = n })
	}
}

// J1: at most MaxIns orders, none among them.
func TestMayManyOrders(t *testing.T) {
	for _, n := range []int{0, 1, 399, 400, 401, 3000} {
		may(t, "orders", n <= 400, func(r *api.Trace) {
			*r = bare()
			for range n {
				r.Ins = append(r.Ins, ins(api.TReg, -1, 5))
			}
		})
	}
}

// J1: from 1 to MaxSnaps snapshots.
func TestMayManySnaps(t *testing.T) {
	for _, n := range []int{0, 1, 2, 399, 400, 401, 3000} {
		may(t, "snapshots", n >= 1 && n <= 400, func(r *api.Trace) {
			end := bare().Snaps
			*r = api.Trace{Fun: 1, Head: 2}
			for range n {
				r.Snaps = append(r.Snaps, end...)
			}
		})
	}
}

// J1: each order is as the table says, at the edges that the table names. Each stands behind those of full, the 4, 7, 8, 9 and 10 of which have no value.
func TestMayOrder(t *testing.T) {
	const last = 13
	good := []api.Ins{
		ins(api.TReg, -1, 0), ins(api.TReg, -1, 5),
		ins(api.TNew, 0), ins(api.TNew, 1),
		ins(api.TGet, 1, last, last), ins(api.TGet, 0, 0, last), ins(api.TGet, 1, 6, 3),
		ins(api.TSet, 1, last, last, last), ins(api.TSet, 1, 0, 1, 2),
		ins(api.TLen, 1, last), ins(api.TLen, 1, 0),
		ins(api.TNext, 1, last, last), ins(api.TNext, 1, 0, 0),
		ins(api.TEmit, -1, last), ins(api.TEmit, -1, 0),
		ins(api.TTrue, 1, last), ins(api.TFalse, 1, last),
		ins(api.TOp+api.OpNot, 1, last), ins(api.TOp+api.OpNeg, 1, last),
	}
	for op := api.TOp + api.OpAdd; op <= api.TOp+api.OpMost; op++ {
		good = append(good, ins(op, 1, last, last), ins(op, 0, 0, 1))
	}
	for kind := api.VNil; kind <= api.VFun; kind++ {
		good = append(good, ins(api.TKind, 1, last, kind))
	}
	bad := []api.Ins{
		ins(api.TKind, 1, last, api.VFun+1), ins(api.TKind, 1, last, -1), ins(api.TKind, 1, last, last),
		ins(0, -1), ins(0, 0), ins(-1, -1), ins(api.TFalse+1, -1), ins(api.TFalse+1, 1, 1),
		ins(api.TOp-1, 1, 1), ins(api.TOp, 1, 1), ins(api.TOp, 1, 1, 1), ins(api.TOp+api.OpNeg+1, 1, 1),
		ins(api.TOp+api.OpAnd, 1, 1, 1), ins(api.TOp+api.OpOr, 1, 1, 1), ins(math.MinInt, -1), ins(math.MaxInt, -1),
	}
	for _, o := range good {
		may(t, "good", true, func(r *api.Trace) { r.Ins = append(r.Ins, o) })
		for i := range 3 {
			bad = append(bad, broken(o, i)...)
		}
		more := o
		for _, more.V = range []api.Value{no, num(0), num(1), text(""), {N: 1}, {S: "a"}} {
			bad = append(bad, more)
		}
		for _, snap := range append(far, -2, -1, 2, 3) {
			more = o
			if more.Snap = snap; snap != o.Snap {
				bad = append(bad, more)
			}
		}
	}
	for _, o := range bad {
		may(t, "bad", false, func(r *api.Trace) { r.Ins = append(r.Ins, o) })
	}
}

// broken are wrong forms of a good order: the field of a number, from X on, has what may not stand there, whatever it is to name.
func broken(o api.Ins, field int) (list []api.Ins) {
	own := map[int]int{api.TReg: 1, api.TNew: 0, api.TGet: 2, api.TSet: 3, api.TNext: 2, api.TKind: 2, api.TOp + api.OpNot: 1, api.TOp + api.OpNeg: 1}
	named, is := own[o.Op]
	switch {
	case !is && o.Op > api.TOp:
		named = 2
	case !is:
		named = 1
	}
	wrong := append(slices.Clone(far), -1, 14, 15)
	if field >= named {
		wrong = append(wrong, 1, 2)
	} else if o.Op == api.TReg {
		wrong = append(wrong, 6, 7)
	} else if o.Op != api.TKind || field == 0 {
		wrong = append(wrong, 4, 7, 8, 9, 10)
	}
	for _, n := range wrong {
		one := o
		*[]*int{&one.X, &one.Y, &one.Z}[field] = n
		list = append(list, one)
	}
	return list
}

// J1: V of a TVal may be, is no table, and of a function one of the program's; nothing else is named.
func TestMayValue(t *testing.T) {
	ask := func(v api.Value, want bool) {
		t.Helper()
		may(t, "V", want, func(r *api.Trace) { r.Ins[1] = val(v) })
	}
	for _, v := range sample.Good() {
		ask(v, v.Kind != api.VTable && (v.Kind != api.VFun || v.N < 3))
	}
	for _, v := range sample.Bad() {
		ask(v, false)
	}
	ask(fun(2), true)
	ask(fun(3), false)
	ask(fun(1<<32), false)
	for _, o := range []api.Ins{{X: 1, Snap: -1}, {Y: 1, Snap: -1}, {Z: 1, Snap: -1}, {X: -1, Snap: -1}, {Snap: 0}, {Snap: 1}, {Snap: -2}} {
		o.Op = api.TVal
		may(t, "a TVal", false, func(r *api.Trace) { r.Ins[1] = o })
	}
}

// J1: an order asks for those ahead of it alone, not for itself.
func TestMayAhead(t *testing.T) {
	for at := range 14 {
		for _, op := range []int{api.TLen, api.TTrue, api.TOp + api.OpNeg} {
			for x := -1; x < 16; x++ {
				r := api.Trace{Fun: 1, Head: 2, Snaps: full().Snaps}
				r.Snaps[1], r.Snaps[2].Regs = r.Snaps[0], r.Snaps[0].Regs
				for range 14 {
					r.Ins = append(r.Ins, ins(api.TReg, -1))
				}
				r.Ins[at] = ins(op, 1, x)
				if want := x >= 0 && x < at; trace.May(program(), r) != want {
					t.Errorf("the order %d at %d asks for %d: May is %v", op, at, x, !want)
				}
			}
		}
	}
}

// J1: of each snapshot PC, Steps, and how many Regs it has.
func TestMaySnap(t *testing.T) {
	for i := range 3 {
		for _, n := range append(far, -1, 0, 1, 2, 3, 4, 5, 6) {
			may(t, "PC", n >= 0 && n < 5 && (i < 2 || n == 2), func(r *api.Trace) { r.Snaps[i].PC = n })
		}
		for n := range 9 {
			may(t, "how many Regs", n == 6, func(r *api.Trace) {
				r.Snaps[i].Regs = slices.Repeat([]int{-1}, n)
			})
		}
		for _, n := range append(far, -1, 0, 1, 59999, 60000, 60001) {
			may(t, "Steps", n >= 0 && n <= 60000 && (i < 2 || n > 0), func(r *api.Trace) {
				for j := range i {
					r.Snaps[j].Steps = 0
				}
				for j := i; j < 3; j++ {
					r.Snaps[j].Steps = max(n, r.Snaps[2].Steps)
				}
				r.Snaps[i].Steps = n
			})
		}
	}
}

// J1: the last snapshot's Steps is at least 1, and no snapshot has more.
func TestMayLast(t *testing.T) {
	for _, end := range []int{0, 1, 2, 60000} {
		for i := range 2 {
			for _, n := range []int{0, 1, 2, 3, 59999, 60000} {
				may(t, "the last Steps", end >= 1 && n <= end, func(r *api.Trace) {
					r.Snaps[1-i].Steps, r.Snaps[i].Steps, r.Snaps[2].Steps = 0, n, end
				})
			}
		}
	}
	may(t, "the last one alone", true, func(r *api.Trace) { *r = bare() })
	may(t, "no step", false, func(r *api.Trace) {
		*r = bare()
		r.Snaps[0].Steps = 0
	})
}

// J1: an entry is from -1 to below how many orders there are, and of an order that has a value. Nobody leaves by the snapshot 2 here.
func TestMayEntries(t *testing.T) {
	has := []int{-1, 0, 1, 2, 3, 5, 6, 11, 12, 13}
	for reg := range 6 {
		for _, n := range append(far, -2, -1, 0, 1, 2, 3, 4, 5, 6, 7, 8, 9, 10, 11, 12, 13, 14, 15) {
			may(t, "an entry of the last one", slices.Contains(has, n), func(r *api.Trace) { r.Snaps[2].Regs[reg] = n })
			may(t, "an entry of one that nobody leaves by", slices.Contains(has, n), func(r *api.Trace) {
				r.Snaps = slices.Insert(r.Snaps, 2, api.Snap{Regs: slices.Repeat([]int{-1}, 6)})
				r.Snaps[2].Regs[reg] = n
			})
			may(t, "an entry of the first one", n == -1 || n == 0 || n == 1, func(r *api.Trace) { r.Snaps[0].Regs[reg] = n })
			may(t, "an entry of the second one", n >= -1 && n <= 3, func(r *api.Trace) { r.Snaps[1].Regs[reg] = n })
		}
	}
}

// J1: an order leaves by a snapshot, but not by the last one, whose entries are all below its own number.
func TestMayLeave(t *testing.T) {
	for own := 2; own < 14; own++ {
		if own == 7 { // a TEmit, which names none
			continue
		}
		for _, n := range append(far, -2, -1, 0, 1, 2, 3) {
			may(t, "Snap", n == 0 || n == 1 && own > 3, func(r *api.Trace) { r.Ins[own].Snap = n })
		}
	}
	may(t, "no other than the last", false, func(r *api.Trace) {
		*r = bare()
		r.Ins = []api.Ins{ins(api.TNew, 0)}
	})
	for entry := -1; entry < 3; entry++ {
		may(t, "its own number", entry < 2, func(r *api.Trace) {
			r.Ins = []api.Ins{ins(api.TReg, -1), ins(api.TReg, -1), ins(api.TNew, 0)}
			r.Snaps = []api.Snap{r.Snaps[0], bare().Snaps[0]}
			r.Snaps[0].Regs[5] = entry
		})
	}
}

// J1: which fields of an order are numbers of orders ahead, as the table says it; they are told by their places.
func TestAsked(t *testing.T) {
	for _, op := range append(far, -1, 0, 1, 2, 3, 4, 5, 6, 7, 8, 9, 10, 11, 12, 19, 20, 21, 22, 23, 24, 25, 26, 27, 28, 29, 30, 31, 32, 40, 41) {
		o := ins(op, 0, 1, 2, 3)
		asked := trace.Asked(&o)
		if want := strings.Count(letters(op), "o"); len(asked) != want || trace.Asks(op) != want {
			t.Errorf("the order %d asks for %d, by its Op %d, not %d", op, len(asked), trace.Asks(op), want)
		}
		for i, n := range asked {
			if *n != i+1 {
				t.Errorf("the order %d: %d stands at %d", op, *n, i)
			}
			*n += 10
		}
		want := [...]int{1, 2, 3}
		for i := range asked {
			want[i] += 10
		}
		if [...]int{o.X, o.Y, o.Z} != want {
			t.Errorf("the order %d: %+v", op, o)
		}
	}
}
