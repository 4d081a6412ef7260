package fold_test

import (
	"math"
	"slices"
	"strings"
	"testing"

	"packtrail/api"
	"packtrail/fold"
	"packtrail/sample"
	"packtrail/trace"
)

var (
	num  = sample.Num
	text = sample.Text
	tab  = sample.Tab
	fun  = sample.Fun
	yes  = sample.Bool(true)
	no   = sample.Bool(false)
	none api.Value
)

// ins is an order that leaves by a snapshot, with some of its fields, X first.
func ins(op, snap int, fields ...int) api.Ins {
	all := append(slices.Clone(fields), 0, 0, 0)
	return api.Ins{Op: op, X: all[0], Y: all[1], Z: all[2], Snap: snap}
}

// val is a TVal.
func val(v api.Value) api.Ins { return api.Ins{Op: api.TVal, V: v, Snap: -1} }

// reg is a TReg.
func reg(n int) api.Ins { return ins(api.TReg, -1, n) }

// program has two functions, of which main, the second one, has six registers and five orders.
func program() api.Code {
	do := api.Instr{Op: api.CNew}
	return api.Code{Main: 1, Funs: []api.Fn{
		{Params: 1, Regs: 2, Code: []api.Instr{{Op: api.CReturn}}},
		{Regs: 6, Code: []api.Instr{do, do, do, do, {Op: api.CLoop, A: 2}}},
	}}
}

// regs are the entries of a snapshot, with those of the registers from 0 on, and -1 behind them.
func regs(entries ...int) []int {
	return append(slices.Clone(entries), slices.Repeat([]int{-1}, 6-len(entries))...)
}

// round is a trace of program's main with these orders and three steps, with these entries of its end. It is left by the snapshot 0 to where the round began, by 1 to the order 4, behind two steps.
func round(end []int, orders ...api.Ins) api.Trace {
	return api.Trace{Fun: 1, Head: 2, Ins: orders, Snaps: []api.Snap{
		{PC: 2, Regs: regs()}, {PC: 4, Steps: 2, Regs: regs()}, {PC: 2, Steps: 3, Regs: end},
	}}
}

// ahead is a state at the head of round, with these registers, and nil behind them; below it is another frame of main's.
func ahead(with ...api.Value) api.State {
	return api.State{
		Frames: []api.Frame{
			{Fun: 1, PC: 3, Regs: []api.Value{num(-1), num(-2), num(-3), num(-4), num(-5), num(-6)}},
			{Fun: 1, PC: 2, Dest: 4, Regs: append(slices.Clone(with), make([]api.Value, 6-len(with))...)},
		},
		Tables: []api.Table{{}, {Keys: []api.Value{num(1), text("k"), num(2)}, Vals: []api.Value{text("a"), tab(0), yes}}},
		Out:    []string{"x"},
		Steps:  5,
	}
}

// states are some at the head of round.
func states() []api.State {
	return []api.State{
		ahead(), ahead(num(1), num(2), num(3), num(4), num(5), num(6)), ahead(tab(1), num(1), tab(0), text("k"), no, yes),
		ahead(text("a"), text(""), num(0), fun(1), none, tab(1)), ahead(yes, tab(0), tab(1), num(-1), num(2), text("b")),
	}
}

// folds asks Of at a trace of program that may be; it holds the answer against L1, L2 and L3, and against the orders that are wanted.
func folds(t *testing.T, r api.Trace, want ...api.Ins) api.Trace {
	t.Helper()
	if !trace.May(program(), r) {
		t.Fatalf("may not be: %+v", r)
	}
	u := holds(t, program(), r)
	if !slices.Equal(u.Ins, want) {
		t.Errorf("%+v:\n%+v;\nwant %+v", r.Ins, u.Ins, want)
	}
	for _, s := range states() {
		for fuel := range 20 {
			nobodyTells(t, program(), r, u, s, fuel)
		}
	}
	return u
}

// stays asks Of at a trace in which nothing is known ahead.
func stays(t *testing.T, r api.Trace) {
	t.Helper()
	if u := folds(t, r, r.Ins...); !sample.SameTrace(u, r) {
		t.Errorf("%+v: %+v", r, u)
	}
}

// L3: an operation of two values that are known is known.
func TestOperations(t *testing.T) {
	long := sample.Longest()
	for _, row := range []struct {
		op         int
		a, b, want api.Value
	}{
		{api.OpAdd, num(7), num(3), num(10)},
		{api.OpAdd, num(math.MaxInt64), num(1), num(math.MinInt64)},
		{api.OpSub, num(3), num(7), num(-4)},
		{api.OpSub, num(math.MinInt64), num(1), num(math.MaxInt64)},
		{api.OpMul, num(7), num(3), num(21)},
		{api.OpMul, num(1 << 62), num(4), num(0)},
		{api.OpDiv, num(-7), num(2), num(-4)},
		{api.OpDiv, num(math.MinInt64), num(-1), num(math.MinInt64)},
		{api.OpDiv, num(0), num(5), num(0)},
		{api.OpMod, num(-7), num(2), num(1)},
		{api.OpMod, num(7), num(-2), num(-1)},
		{api.OpCat, text("a"), text("b"), text("ab")},
		{api.OpCat, num(-1), num(2), text("-12")},
		{api.OpCat, text(""), text(""), text("")},
		{api.OpCat, text(long), text(""), text(long)},
		{api.OpCat, text(long[1:]), num(7), text(long[1:] + "7")},
		{api.OpSame, none, none, yes},
		{api.OpSame, none, no, no},
		{api.OpSame, fun(1), fun(1), yes},
		{api.OpSame, fun(0), fun(1), no},
		{api.OpSame, num(1), text("1"), no},
		{api.OpLess, num(2), num(3), yes},
		{api.OpLess, num(3), num(3), no},
		{api.OpLess, text("a"), text("ab"), yes},
		{api.OpMost, num(3), num(3), yes},
		{api.OpMost, text("b"), text("ab"), no},
	} {
		for _, snap := range []int{0, 1} {
			folds(t, round(regs(-1, 2, 1), val(row.a), val(row.b), ins(api.TOp+row.op, snap, 0, 1)), val(row.a), val(row.b), val(row.want))
			folds(t, round(regs(3), reg(0), val(row.b), val(row.a), ins(api.TOp+row.op, snap, 2, 1)), reg(0), val(row.b), val(row.a), val(row.want))
		}
	}
}

// L3: one order may be asked for twice.
func TestWithItself(t *testing.T) {
	for op, want := range map[int]api.Value{
		api.OpAdd: num(14), api.OpSub: num(0), api.OpMul: num(49), api.OpDiv: num(1), api.OpMod: num(0),
		api.OpCat: text("77"), api.OpSame: yes, api.OpLess: no, api.OpMost: yes,
	} {
		folds(t, round(regs(1), val(num(7)), ins(api.TOp+op, 0, 0, 0)), val(num(7)), val(want))
	}
}

// L3: OpNot and OpNeg are of X alone, whatever the order 0 is.
func TestOneSided(t *testing.T) {
	for _, first := range []api.Ins{reg(1), val(text("z")), ins(api.TNew, 0)} {
		for a, want := range map[api.Value]api.Value{
			none: yes, no: yes, yes: no, num(0): no, text(""): no, fun(0): no,
		} {
			folds(t, round(regs(2), first, val(a), ins(api.TOp+api.OpNot, 1, 1)), first, val(a), val(want))
		}
		for a, want := range map[int64]int64{5: -5, -5: 5, 0: 0, math.MinInt64: math.MinInt64} {
			folds(t, round(regs(2), first, val(num(a)), ins(api.TOp+api.OpNeg, 1, 1)), first, val(num(a)), val(num(want)))
		}
		for _, a := range []api.Value{none, yes, text("5"), fun(1)} {
			stays(t, round(regs(2), first, val(a), ins(api.TOp+api.OpNeg, 1, 1)))
		}
	}
	stays(t, round(regs(2), val(num(1)), reg(0), ins(api.TOp+api.OpNot, 1, 1)))
	stays(t, round(regs(2), val(num(1)), reg(0), ins(api.TOp+api.OpNeg, 1, 1)))
}

// L2: an operation that is an error of what is known stays, and the trace is left there.
func TestErrors(t *testing.T) {
	long := sample.Longest()
	for _, row := range []struct {
		op   int
		a, b api.Value
	}{
		{api.OpAdd, num(1), text("1")}, {api.OpAdd, none, num(1)}, {api.OpSub, yes, yes}, {api.OpMul, fun(0), num(0)},
		{api.OpDiv, num(1), num(0)}, {api.OpMod, num(1), num(0)}, {api.OpDiv, text("a"), num(0)}, {api.OpMod, num(0), none},
		{api.OpCat, text(long), text("a")}, {api.OpCat, num(1), text(long)}, {api.OpCat, text("a"), none}, {api.OpCat, no, text("a")},
		{api.OpLess, num(1), text("1")}, {api.OpLess, none, none}, {api.OpMost, no, yes}, {api.OpMost, text("a"), num(1)},
	} {
		r := round(regs(2), val(row.a), val(row.b), ins(api.TOp+row.op, 1, 0, 1), ins(api.TEmit, -1, 2))
		stays(t, r)
		s, _ := trace.Run(program(), fold.Of(program(), r), ahead(), 20)
		if f := s.Frames[1]; f.PC != 4 || s.Steps != 7 || len(s.Out) != 1 {
			t.Errorf("%v is not left there: %+v", row, s)
		}
	}
}

// L3: of a value that is known, what holds is asked no longer; what does not hold stays, and the trace is left there.
func TestGuards(t *testing.T) {
	for _, v := range []api.Value{none, no, yes, num(0), num(1), text(""), text("a"), fun(0), fun(1)} {
		guard := func(o api.Ins, goes bool) {
			t.Helper()
			r := round(regs(1, 0), reg(0), val(v), o, ins(api.TEmit, -1, 1))
			if !goes {
				stays(t, r)
				return
			}
			folds(t, r, reg(0), val(v), ins(api.TEmit, -1, 1))
		}
		for kind := api.VNil; kind <= api.VFun; kind++ {
			guard(ins(api.TKind, 1, 1, kind), v.Kind == kind)
		}
		guard(ins(api.TTrue, 1, 1), v != none && v != no)
		guard(ins(api.TFalse, 1, 1), v == none || v == no)
	}
}

// L2: of a value that is not known, all is asked still, also where an order ahead asked for it already.
func TestUnknownGuards(t *testing.T) {
	for _, first := range []api.Ins{reg(0), ins(api.TNew, 0)} {
		stays(t, round(regs(0), first, ins(api.TKind, 1, 0, api.VNil), ins(api.TKind, 1, 0, api.VNil), ins(api.TTrue, 0, 0), ins(api.TFalse, 1, 0), ins(api.TFalse, 1, 0)))
		stays(t, round(regs(0), first, ins(api.TKind, 1, 0, api.VTable), ins(api.TTrue, 0, 0), ins(api.TTrue, 0, 0)))
	}
}

// L2: an operation is not known, if one of its values is not.
func TestHalfKnown(t *testing.T) {
	for op := api.TOp + api.OpAdd; op <= api.TOp+api.OpMost; op++ {
		for _, v := range []api.Value{num(0), num(1), text("a"), none} {
			for _, other := range []api.Ins{reg(0), reg(1), ins(api.TNew, 0)} {
				stays(t, round(regs(2), val(v), other, ins(op, 1, 0, 1)))
				stays(t, round(regs(2), val(v), other, ins(op, 1, 1, 0)))
				stays(t, round(regs(2), val(v), other, ins(op, 1, 1, 1)))
			}
		}
	}
}

// L2: what hangs on tables, and what is told, is not known ahead, whatever it asks for.
func TestOtherOrders(t *testing.T) {
	stays(t, round(regs()))
	stays(t, round(regs(0, 1), reg(3), val(text("abc"))))
	for _, v := range []api.Value{none, num(1), text("k"), fun(1)} {
		for _, o := range []api.Ins{ins(api.TEmit, -1, 0), ins(api.TNew, 1), ins(api.TLen, 1, 0), ins(api.TGet, 1, 0, 0), ins(api.TSet, 1, 0, 0, 0), ins(api.TNext, 1, 0, 0)} {
			stays(t, round(regs(0), val(v), o, ins(api.TEmit, -1, 0)))
		}
		for _, o := range []api.Ins{ins(api.TGet, 1, 1, 0), ins(api.TSet, 1, 1, 0, 0), ins(api.TNext, 1, 1, 0), ins(api.TSet, 1, 1, 0, 1)} {
			stays(t, round(regs(0), val(v), reg(0), o, ins(api.TEmit, -1, 1)))
			stays(t, round(regs(0), val(v), ins(api.TNew, 0), o, ins(api.TEmit, -1, 1)))
		}
	}
}

// L3: what was found out is known to all orders behind.
func TestOnwards(t *testing.T) {
	r := round(regs(3, 6, 8, 10),
		val(num(2)), val(num(3)), ins(api.TOp+api.OpAdd, 0, 0, 1), ins(api.TOp+api.OpMul, 0, 2, 2), ins(api.TKind, 1, 3, api.VInt),
		val(text("n")), ins(api.TOp+api.OpCat, 1, 5, 3), ins(api.TTrue, 1, 6), ins(api.TOp+api.OpLess, 1, 3, 2), ins(api.TFalse, 1, 8), ins(api.TOp+api.OpNot, 1, 8), ins(api.TTrue, 1, 10),
	)
	u := folds(t, r, val(num(2)), val(num(3)), val(num(5)), val(num(25)), val(text("n")), val(text("n25")), val(no), val(yes))
	want := api.Snap{PC: 2, Steps: 3, Regs: regs(3, 5, 6, 7)}
	if got := u.Snaps[len(u.Snaps)-1]; got.PC != want.PC || got.Steps != want.Steps || !slices.Equal(got.Regs, want.Regs) {
		t.Errorf("the end is %+v", got)
	}
	// an error is not known, and nothing that asks for it is
	stays(t, round(regs(4), val(num(0)), val(num(1)), ins(api.TOp+api.OpDiv, 1, 1, 0), ins(api.TOp+api.OpSame, 0, 2, 2), ins(api.TOp+api.OpNot, 0, 3), ins(api.TKind, 1, 2, api.VInt), ins(api.TTrue, 1, 4)))
}

// L2, L3: behind what never holds all else becomes what it is to, though nobody comes there.
func TestNeverHolds(t *testing.T) {
	r := round(regs(3), val(num(1)), ins(api.TFalse, 1, 0), ins(api.TTrue, 0, 0), ins(api.TOp+api.OpNeg, 0, 0), ins(api.TEmit, -1, 3), ins(api.TKind, 0, 3, api.VText))
	folds(t, r, val(num(1)), ins(api.TFalse, 1, 0), val(num(-1)), ins(api.TEmit, -1, 2), ins(api.TKind, 0, 2, api.VText))
}

// L1, L2: where orders go, those behind have other numbers; registers, kinds and snapshots have not.
func TestOtherNumbers(t *testing.T) {
	known := []api.Ins{val(num(9)), ins(api.TKind, 0, 0, api.VInt), ins(api.TTrue, 0, 0), reg(5)} // two of these go: the order 3 is 1 then
	r := round(regs(3, -1, 6, 10), slices.Concat(known, []api.Ins{
		ins(api.TKind, 1, 3, api.VTable), ins(api.TKind, 1, 0, api.VInt), ins(api.TGet, 1, 3, 0), ins(api.TTrue, 0, 0), ins(api.TSet, 1, 3, 0, 3),
		ins(api.TLen, 1, 3), ins(api.TNext, 1, 3, 0), ins(api.TEmit, -1, 9), ins(api.TOp+api.OpAdd, 1, 9, 0), ins(api.TOp+api.OpNot, 1, 12), ins(api.TFalse, 1, 13), ins(api.TNew, 1), ins(api.TOp+api.OpNeg, 1, 12), reg(3),
	})...)
	r.Snaps[0].Regs = regs(0)
	r.Snaps[1].Regs = regs(-1, 3, 0)
	u := folds(t, r, val(num(9)), reg(5), ins(api.TKind, 1, 1, api.VTable), ins(api.TGet, 1, 1, 0), ins(api.TSet, 1, 1, 0, 1),
		ins(api.TLen, 1, 1), ins(api.TNext, 1, 1, 0), ins(api.TEmit, -1, 5), ins(api.TOp+api.OpAdd, 1, 5, 0), ins(api.TOp+api.OpNot, 1, 8), ins(api.TFalse, 1, 9), ins(api.TNew, 1), ins(api.TOp+api.OpNeg, 1, 8), reg(3))
	if !slices.Equal(u.Snaps[0].Regs, regs(0)) || !slices.Equal(u.Snaps[1].Regs, regs(-1, 1, 0)) || !slices.Equal(u.Snaps[2].Regs, regs(1, -1, 3, 6)) {
		t.Errorf("snapshots: %+v", u.Snaps)
	}
	for _, v := range []api.Value{tab(0), tab(1), num(1)} {
		for fuel := range 30 {
			nobodyTells(t, program(), r, u, ahead(num(1), num(2), num(3), num(4), num(5), v), fuel)
		}
	}
}

// L2: each order leaves by its own snapshot still, with what registers have by then, some of it known.
func TestOwnSnap(t *testing.T) {
	r := api.Trace{Fun: 1, Head: 2}
	for i := range 6 {
		first := len(r.Ins)
		r.Ins = append(r.Ins, val(num(int64(i))), ins(api.TKind, i, first, api.VInt), reg(i), ins(api.TTrue, i, first+2))
		entries := regs()
		entries[(i+1)%6] = first
		if i > 0 {
			entries[i] = first - 2
		}
		r.Snaps = append(r.Snaps, api.Snap{PC: i % 5, Steps: i, Regs: entries})
	}
	r.Snaps = append(r.Snaps, api.Snap{PC: 2, Steps: 6, Regs: regs(-1, 4, 8, 12, 16, 20)})
	var want []api.Ins
	for i := range 6 {
		want = append(want, val(num(int64(i))), reg(i), ins(api.TTrue, i, 3*i+1))
	}
	u := folds(t, r, want...)
	for i := range 6 {
		with := []api.Value{num(11), num(12), num(13), num(14), num(15), num(16)}
		with[i] = no
		for fuel := range 40 {
			nobodyTells(t, program(), r, u, ahead(with...), fuel)
		}
		after := ahead(with...)
		after.Steps, after.Frames[1].PC, after.Frames[1].Regs[(i+1)%6] = 5+i, i%5, num(int64(i))
		if i > 0 {
			after.Frames[1].Regs[i] = with[i-1]
		}
		if got, _ := trace.Run(program(), u, ahead(with...), 11); !sample.Same(got, after) {
			t.Errorf("left by %d: %+v", i, got)
		}
	}
}

// L1: there may be as many orders and snapshots as there are at most, all of which are known, or none; and each may be the last.
func TestMany(t *testing.T) {
	for _, many := range []int{1, 2, 3, 399, api.MaxIns} {
		sum, guards, unknown := round(regs(many-1), val(num(1))), round(regs(0), val(num(1))), round(regs(many-1), reg(0))
		for i := 1; i < many; i++ {
			sum.Ins = append(sum.Ins, ins(api.TOp+api.OpAdd, 0, i-1, i/2))
			guards.Ins = append(guards.Ins, ins(api.TTrue, 1, 0))
			unknown.Ins = append(unknown.Ins, ins(api.TOp+api.OpSame, 1, i-1, i/2))
		}
		stays(t, unknown)
		folds(t, guards, val(num(1)))
		want := []api.Ins{val(num(1))}
		for i := 1; i < many; i++ {
			want = append(want, val(num(want[i-1].V.N+want[i/2].V.N)))
		}
		folds(t, sum, want...)
	}
	for _, many := range []int{1, 2, 399, api.MaxSnaps} {
		r := round(regs(2), val(num(1)), reg(0), ins(api.TOp+api.OpNeg, 0, 0))
		r.Snaps = append(slices.Repeat(r.Snaps[:1], many-1), r.Snaps[2])
		if many == 1 {
			r.Ins[2] = val(num(-1))
		}
		r.Snaps[len(r.Snaps)-1].Steps = many
		folds(t, r, val(num(1)), reg(0), val(num(-1)))
	}
}

// L1: the Steps of a round may be as many as there are.
func TestLongRound(t *testing.T) {
	for _, steps := range []int{1, 2, 59994, 59995, 59996, 60000} {
		r := round(regs(1), val(num(1)), ins(api.TOp+api.OpNeg, 0, 0))
		r.Snaps[1].Steps, r.Snaps[2].Steps = min(2, steps), steps
		u := folds(t, r, val(num(1)), val(num(-1)))
		for _, fuel := range []int{0, steps + 4, steps + 5, steps + 6, 2*steps + 5, 60000} {
			nobodyTells(t, program(), r, u, ahead(), min(fuel, api.MaxFuel))
		}
	}
}

// L1: the zero trace, if the trace, or the program, may not be.
func TestWrong(t *testing.T) {
	r := func() api.Trace {
		return round(regs(2), val(num(1)), reg(1), ins(api.TOp+api.OpNeg, 0, 0), ins(api.TTrue, 1, 2), ins(api.TOp+api.OpAdd, 1, 1, 2))
	}
	if isZero(holds(t, program(), r())) {
		t.Fatal("it may be")
	}
	wrong := program()
	wrong.Main = 0
	short := program()
	short.Funs[1].Regs = 5
	for _, p := range []api.Code{{}, wrong, short, {Funs: program().Funs[:1]}} {
		if u := fold.Of(p, r()); !isZero(u) {
			t.Errorf("of %+v: %+v", p, u)
		}
	}
	for i, change := range []func(r *api.Trace){
		func(r *api.Trace) { *r = api.Trace{} },
		func(r *api.Trace) { r.Fun = 2 },
		func(r *api.Trace) { r.Fun = -1 },
		func(r *api.Trace) { r.Fun = math.MaxInt },
		func(r *api.Trace) { r.Fun = 0 },
		func(r *api.Trace) { r.Head = 3 },
		func(r *api.Trace) { r.Head = math.MinInt },
		func(r *api.Trace) { r.Snaps = nil },
		func(r *api.Trace) { r.Snaps = r.Snaps[2:] },
		func(r *api.Trace) { r.Snaps = slices.Repeat(r.Snaps, 134) },
		func(r *api.Trace) { r.Snaps[2].Steps = 0 },
		func(r *api.Trace) { r.Snaps[2].Steps = 60001 },
		func(r *api.Trace) { r.Snaps[0].Steps = 4 },
		func(r *api.Trace) { r.Snaps[0].Regs = r.Snaps[0].Regs[1:] },
		func(r *api.Trace) { r.Snaps[0].Regs[0] = 2 },
		func(r *api.Trace) { r.Snaps[1].Regs[0] = 3 },
		func(r *api.Trace) { r.Snaps[2].Regs[0] = 3 },
		func(r *api.Trace) { r.Snaps[2].Regs[0] = 5 },
		func(r *api.Trace) { r.Snaps[2].Regs[0] = -2 },
		func(r *api.Trace) { r.Ins = append(r.Ins, slices.Repeat(r.Ins[:1], 396)...) },
		func(r *api.Trace) { r.Ins[0].V = tab(0) },
		func(r *api.Trace) { r.Ins[0].V = fun(2) },
		func(r *api.Trace) { r.Ins[0].V = text(sample.Longest() + "m") },
		func(r *api.Trace) { r.Ins[0].V = api.Value{Kind: api.VBool, N: 2} },
		func(r *api.Trace) { r.Ins[0].X = 1 },
		func(r *api.Trace) { r.Ins[0].Snap = 0 },
		func(r *api.Trace) { r.Ins[1].X = 6 },
		func(r *api.Trace) { r.Ins[2].X = 2 },
		func(r *api.Trace) { r.Ins[2].Y = 1 },
		func(r *api.Trace) { r.Ins[2].Snap = -1 },
		func(r *api.Trace) { r.Ins[2].Snap = 2 },
		func(r *api.Trace) { r.Ins[2].V = num(1) },
		func(r *api.Trace) { r.Ins[3].X = 4 },
		func(r *api.Trace) { r.Ins[3].X = math.MaxInt },
		func(r *api.Trace) { r.Ins[3].Op, r.Ins[3].Y = api.TKind, 6 },
		func(r *api.Trace) { r.Ins[4].Y = 3 },
		func(r *api.Trace) { r.Ins[4].X = -1 },
		func(r *api.Trace) { r.Ins[4].Op = api.TOp },
		func(r *api.Trace) { r.Ins[4].Op = api.TOp + api.OpNeg + 1 },
		func(r *api.Trace) { r.Ins[4].Op = math.MinInt },
	} {
		one := r()
		change(&one)
		if u := fold.Of(program(), one); !isZero(u) {
			t.Errorf("%d: %+v: %+v", i, one, u)
		}
	}
}

// L1 to L3: what is bettered already stays as it is.
func TestTwice(t *testing.T) {
	r := round(regs(2, 4), val(num(1)), reg(1), ins(api.TOp+api.OpNeg, 0, 0), ins(api.TTrue, 1, 2), ins(api.TOp+api.OpAdd, 1, 1, 2), ins(api.TFalse, 1, 0))
	stays(t, fold.Of(program(), r))
}

// L2: a text of a round that grows from what is known does so in every round.
func TestRounds(t *testing.T) {
	r := round(regs(4), val(text("ab")), ins(api.TOp+api.OpCat, 0, 0, 0), reg(0), ins(api.TKind, 0, 2, api.VText), ins(api.TOp+api.OpCat, 1, 2, 1), ins(api.TTrue, 1, 1))
	u := folds(t, r, val(text("ab")), val(text("abab")), reg(0), ins(api.TKind, 0, 2, api.VText), ins(api.TOp+api.OpCat, 1, 2, 1))
	for fuel := range 300 {
		nobodyTells(t, program(), r, u, ahead(text("c")), fuel)
	}
	if got, _ := trace.Run(program(), u, ahead(text("c")), api.MaxFuel); got.Frames[1].Regs[0] != text("c"+strings.Repeat("abab", 74)) {
		t.Errorf("at the end: %+v", got)
	}
}
