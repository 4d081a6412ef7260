package same_test

import (
	"math"
	"slices"
	"testing"

	"packtrail/api"
	"packtrail/same"
	"packtrail/sample"
	"packtrail/trace"
)

var (
	num  = sample.Num
	text = sample.Text
	tab  = sample.Tab
	fun  = sample.Fun
	yes  = sample.Bool(true)
	no   = sample.Bool(false)
	none api.Value
)

// ins is an order that leaves by a snapshot, with some of its fields, X first.
func ins(op, snap int, fields ...int) api.Ins {
	all := append(slices.Clone(fields), 0, 0, 0)
	return api.Ins{Op: op, X: all[0], Y: all[1], Z: all[2], Snap: snap}
}

// val is a TVal.
func val(v api.Value) api.Ins { return api.Ins{Op: api.TVal, V: v, Snap: -1} }

// reg is a TReg.
func reg(n int) api.Ins { return ins(api.TReg, -1, n) }

// emit is a TEmit.
func emit(n int) api.Ins { return ins(api.TEmit, -1, n) }

// program has two functions, of which main, the second one, has six registers and five orders.
func program() api.Code {
	do := api.Instr{Op: api.CNew}
	return api.Code{Main: 1, Funs: []api.Fn{
		{Params: 1, Regs: 2, Code: []api.Instr{{Op: api.CReturn}}},
		{Regs: 6, Code: []api.Instr{do, do, do, do, {Op: api.CLoop, A: 2}}},
	}}
}

// regs are the entries of a snapshot, with those of the registers from 0 on, and -1 behind them.
func regs(entries ...int) []int {
	return append(slices.Clone(entries), slices.Repeat([]int{-1}, 6-len(entries))...)
}

// round is a trace of program's main with these orders and three steps, with these entries of its end. It is left by the snapshot 0 to where the round began, by 1 to the order 4, behind two steps.
func round(end []int, orders ...api.Ins) api.Trace {
	return api.Trace{Fun: 1, Head: 2, Ins: orders, Snaps: []api.Snap{
		{PC: 2, Regs: regs()}, {PC: 4, Steps: 2, Regs: regs()}, {PC: 2, Steps: 3, Regs: end},
	}}
}

// ahead is a state at the head of round, with these registers, and nil behind them; below it is another frame of main's.
func ahead(with ...api.Value) api.State {
	return api.State{
		Frames: []api.Frame{
			{Fun: 1, PC: 3, Regs: []api.Value{num(-1), num(-2), num(-3), num(-4), num(-5), num(-6)}},
			{Fun: 1, PC: 2, Dest: 4, Regs: append(slices.Clone(with), make([]api.Value, 6-len(with))...)},
		},
		Tables: []api.Table{{}, {Keys: []api.Value{num(1), text("k"), num(2)}, Vals: []api.Value{text("a"), tab(0), yes}}},
		Out:    []string{"x"},
		Steps:  5,
	}
}

// states are some at the head of round.
func states() []api.State {
	return []api.State{
		ahead(), ahead(num(1), num(2), num(3), num(4), num(5), num(6)), ahead(tab(1), num(1), tab(0), text("k"), no, yes),
		ahead(text("a"), text(""), num(0), fun(1), none, tab(1)), ahead(yes, tab(0), tab(1), num(-1), num(2), text("b")),
		ahead(text("b"), text("ab"), no, no, tab(1), num(0)), ahead(num(0), num(0), num(1), fun(0), fun(1), none),
	}
}

// becomes asks Of at a trace of program that may be; it holds the answer against M1, M2 and M3, and against the orders that are wanted.
func becomes(t *testing.T, r api.Trace, want ...api.Ins) api.Trace {
	t.Helper()
	if !trace.May(program(), r) {
		t.Fatalf("may not be: %+v", r)
	}
	u := holds(t, program(), r)
	if !slices.Equal(u.Ins, want) {
		t.Errorf("%+v:\n%+v;\nwant %+v", r.Ins, u.Ins, want)
	}
	for _, s := range states() {
		for fuel := range 20 {
			nobodyTells(t, program(), r, u, s, fuel)
		}
	}
	return u
}

// stays asks Of at a trace in which nothing is done twice.
func stays(t *testing.T, r api.Trace) {
	t.Helper()
	if u := becomes(t, r, r.Ins...); !sample.SameTrace(u, r) {
		t.Errorf("%+v: %+v", r, u)
	}
}

// twoSided are the orders that do operations of X and Y.
func twoSided() []int {
	var list []int
	for op := api.TOp + api.OpAdd; op <= api.TOp+api.OpMost; op++ {
		list = append(list, op)
	}
	return list
}

// M3: a register is the same throughout the round, also where it is another one behind it.
func TestRegisters(t *testing.T) {
	becomes(t, round(regs(0, 1, 2), reg(3), reg(3), reg(3)), reg(3))
	u := becomes(t, round(regs(-1, 3, 4), reg(0), reg(1), reg(0), reg(1), reg(2)), reg(0), reg(1), reg(2))
	if end := u.Snaps[2].Regs; !slices.Equal(end, regs(-1, 1, 2)) {
		t.Errorf("the end is %v", end)
	}
	stays(t, round(regs(5, 4, 3, 2, 1, 0), reg(0), reg(1), reg(2), reg(3), reg(4), reg(5)))
}

// M3: values are alike, if they are of one kind and the same; no others are.
func TestValues(t *testing.T) {
	long := sample.Longest()
	list := []api.Value{
		none, no, yes, num(0), num(1), num(-1), num(math.MaxInt64), num(math.MinInt64), text(""), text("0"), text("1"), text("a"), text("\x00"), text("a\x00"),
		text(long), text(long[1:]), text(long[1:] + "n"), fun(0), fun(1),
	}
	for i, a := range list {
		becomes(t, round(regs(1, 0), val(a), val(a)), val(a))
		becomes(t, round(regs(2, 1, 0), val(a), reg(0), val(a)), val(a), reg(0))
		for _, b := range list[i+1:] {
			stays(t, round(regs(1, 0), val(a), val(b)))
		}
	}
}

// M3: a value of another piece of memory is the same, if its bytes are.
func TestOtherMemory(t *testing.T) {
	a, b := text(string([]byte("word"))), text(string([]byte("word")))
	becomes(t, round(regs(1, 0), val(a), val(b)), val(text("word")))
}

// M3: an operation of the same two orders, by whichever snapshots, is done once.
func TestOperations(t *testing.T) {
	for _, op := range twoSided() {
		for snap := range 2 {
			first, again := ins(op, snap, 0, 1), ins(op, 1-snap, 0, 1)
			becomes(t, round(regs(2), reg(0), reg(1), first, first), reg(0), reg(1), first)
			u := becomes(t, round(regs(3, 2), reg(0), reg(1), first, again, emit(3), again, emit(5)), reg(0), reg(1), first, emit(2), emit(2))
			if end := u.Snaps[2].Regs; !slices.Equal(end, regs(2, 2)) {
				t.Errorf("the end is %v", end)
			}
		}
		becomes(t, round(regs(2), reg(0), ins(op, 1, 0, 0), ins(op, 0, 0, 0)), reg(0), ins(op, 1, 0, 0))
	}
}

// M3: OpNot and OpNeg are of X alone.
func TestOneSided(t *testing.T) {
	for _, op := range []int{api.TOp + api.OpNot, api.TOp + api.OpNeg} {
		for _, first := range []api.Ins{reg(4), val(num(1)), ins(api.TNew, 0)} {
			becomes(t, round(regs(3), first, reg(1), ins(op, 1, 1), ins(op, 0, 1), emit(3)), first, reg(1), ins(op, 1, 1), emit(2))
			stays(t, round(regs(3), first, reg(1), ins(op, 1, 1), ins(op, 1, 0), emit(3)))
		}
	}
}

// M2: orders of which one field alone is another one are not alike.
func TestNotAlike(t *testing.T) {
	all := twoSided()
	for i, op := range all {
		stays(t, round(regs(3, 4, 5), reg(0), reg(1), ins(op, 1, 0, 1), ins(op, 1, 1, 0), ins(op, 1, 0, 0), ins(op, 1, 1, 1)))
		for _, other := range all[i+1:] {
			stays(t, round(regs(2, 3), reg(0), reg(1), ins(op, 1, 0, 1), ins(other, 1, 0, 1)))
		}
	}
	for kind := api.VNil; kind <= api.VFun; kind++ {
		stays(t, round(regs(0), reg(0), reg(1), ins(api.TKind, 0, 0, kind), ins(api.TKind, 1, 0, (kind+1)%6), ins(api.TKind, 1, 1, kind)))
	}
	stays(t, round(regs(0), reg(0), reg(1), ins(api.TTrue, 0, 0), ins(api.TFalse, 1, 0), ins(api.TTrue, 1, 1)))
	stays(t, round(regs(0), reg(0), reg(1), ins(api.TTrue, 0, 0), ins(api.TFalse, 1, 1), ins(api.TFalse, 1, 0)))
	stays(t, round(regs(0), reg(0), ins(api.TKind, 0, 0), ins(api.TTrue, 0, 0), ins(api.TFalse, 0, 0), ins(api.TOp+api.OpNot, 0, 0), ins(api.TOp+api.OpNeg, 0, 0)))
	stays(t, round(regs(0), reg(0), val(none), reg(1), val(num(1))))
}

// M3: what held once is asked no longer; the trace is left by the first that asks.
func TestGuards(t *testing.T) {
	guards := []api.Ins{ins(api.TTrue, 0, 0), ins(api.TFalse, 0, 0)}
	for kind := api.VNil; kind <= api.VFun; kind++ {
		guards = append(guards, ins(api.TKind, 0, 0, kind))
	}
	for _, first := range guards {
		again := first
		again.Snap = 1
		becomes(t, round(regs(2), reg(0), first, reg(1), emit(2), again, emit(0), first), reg(0), first, reg(1), emit(2), emit(0))
		becomes(t, round(regs(2), reg(0), again, reg(1), emit(2), first, emit(0), again), reg(0), again, reg(1), emit(2), emit(0))
	}
	r := round(regs(0), reg(0), emit(0), ins(api.TTrue, 1, 0), ins(api.TTrue, 0, 0))
	got, _ := trace.Run(program(), same.Of(program(), r), ahead(no), 20)
	if f := got.Frames[1]; f.PC != 4 || got.Steps != 7 || len(got.Out) != 2 {
		t.Errorf("not left by the first: %+v", got)
	}
}

// M2: an operation that fails leaves the trace by the first one's snapshot.
func TestFailing(t *testing.T) {
	for _, op := range []int{api.TOp + api.OpAdd, api.TOp + api.OpDiv, api.TOp + api.OpCat, api.TOp + api.OpLess} {
		r := round(regs(3), reg(0), reg(1), ins(op, 1, 0, 1), ins(op, 0, 0, 1))
		got, _ := trace.Run(program(), same.Of(program(), r), ahead(yes, no), 20)
		if f := got.Frames[1]; f.PC != 4 || got.Steps != 7 {
			t.Errorf("the order %d: not left by the first: %+v", op, got)
		}
	}
}

// M2: what is done to tables, or told, is done as often as it was; what hangs on tables is asked as often.
func TestDoneAgain(t *testing.T) {
	for _, o := range []api.Ins{ins(api.TNew, 1), ins(api.TLen, 1, 0), ins(api.TGet, 1, 0, 1), ins(api.TNext, 1, 0, 1)} {
		stays(t, round(regs(-1, -1, 2, 3), reg(0), reg(1), o, o, emit(2), emit(3), o, ins(api.TOp+api.OpSame, 1, 2, 3), ins(api.TOp+api.OpSame, 1, 2, 6)))
	}
	for _, o := range []api.Ins{emit(0), ins(api.TSet, 1, 0, 1, 0)} {
		stays(t, round(regs(), reg(0), reg(1), o, o, o))
	}
	set := []api.Ins{ins(api.TSet, 1, 0, 1, 2), ins(api.TSet, 1, 0, 1, 3)}
	look := []api.Ins{ins(api.TLen, 1, 0), ins(api.TGet, 1, 0, 1), ins(api.TNext, 1, 0, 4)}
	for _, o := range look {
		r := round(regs(), reg(0), val(num(3)), val(none), val(text("new")), val(num(2)), set[1], o, emit(6), set[0], o, emit(9), set[1], o, emit(12))
		stays(t, r)
		got, _ := trace.Run(program(), same.Of(program(), r), ahead(tab(1)), 8)
		if len(got.Out) != 4 || got.Out[1] == got.Out[2] || got.Out[1] != got.Out[3] {
			t.Errorf("told: %v", got.Out)
		}
	}
}

// M3: a deed stays the same, whatever is done to tables, or told, in between; what a table holds is no part of it.
func TestInBetween(t *testing.T) {
	between := []api.Ins{ins(api.TSet, 1, 0, 1, 0), ins(api.TNew, 1), emit(0), ins(api.TGet, 0, 0, 1), ins(api.TLen, 0, 0), ins(api.TNext, 0, 0, 1)}
	for _, o := range between {
		for _, deed := range []api.Ins{ins(api.TOp+api.OpSame, 1, 0, 1), ins(api.TOp+api.OpAdd, 1, 1, 1), ins(api.TKind, 1, 0, api.VTable), ins(api.TTrue, 1, 1), ins(api.TFalse, 1, 0), reg(0), reg(2), val(num(3))} {
			r := round(regs(), reg(0), reg(1), reg(2), val(num(3)), deed, o, deed)
			want := []api.Ins{reg(0), reg(1), reg(2), val(num(3)), deed, o}
			if deed.Snap < 0 {
				want = []api.Ins{reg(0), reg(1), reg(2), val(num(3)), o}
			}
			becomes(t, r, want...)
		}
	}
}

// M3: orders that ask for orders alike are alike themselves, however far on.
func TestOnwards(t *testing.T) {
	add, less := api.TOp+api.OpAdd, api.TOp+api.OpLess
	r := round(regs(4, 9, 11),
		reg(0), val(num(2)), ins(add, 0, 0, 1), ins(api.TOp+api.OpNeg, 1, 2), ins(less, 1, 3, 2),
		val(num(2)), reg(0), ins(add, 1, 6, 5), ins(api.TOp+api.OpNeg, 0, 7), ins(less, 0, 8, 7), ins(api.TTrue, 1, 4), ins(api.TOp+api.OpNot, 1, 4), ins(api.TTrue, 0, 9), ins(api.TOp+api.OpNot, 0, 9), ins(api.TTrue, 1, 13),
	)
	u := becomes(t, r, reg(0), val(num(2)), ins(add, 0, 0, 1), ins(api.TOp+api.OpNeg, 1, 2), ins(less, 1, 3, 2), ins(api.TTrue, 1, 4), ins(api.TOp+api.OpNot, 1, 4), ins(api.TTrue, 1, 6))
	if end := u.Snaps[2].Regs; !slices.Equal(end, regs(4, 4, 6)) {
		t.Errorf("the end is %v", end)
	}
	// what was got twice is not alike, and nothing that asks for it is
	stays(t, round(regs(3), reg(0), val(num(1)), ins(api.TGet, 1, 0, 1), ins(api.TGet, 1, 0, 1), ins(api.TKind, 1, 2, api.VInt), ins(api.TKind, 1, 3, api.VInt), ins(add, 1, 2, 2), ins(add, 1, 3, 3), ins(add, 1, 2, 3)))
	stays(t, round(regs(0, 1), ins(api.TNew, 1), ins(api.TNew, 1), ins(api.TKind, 1, 0, api.VTable), ins(api.TKind, 1, 1, api.VTable), ins(api.TOp+api.OpNot, 1, 0), ins(api.TOp+api.OpNot, 1, 1)))
}

// M3: numbers of registers and kinds are none of orders: they stay, where those change, and are not told apart or taken for one by them.
func TestOtherNumbers(t *testing.T) {
	becomes(t, round(regs(2), reg(4), reg(4), reg(1), reg(5), ins(api.TKind, 1, 2, api.VText), ins(api.TKind, 1, 3, api.VText), reg(1), ins(api.TKind, 0, 6, api.VText)),
		reg(4), reg(1), reg(5), ins(api.TKind, 1, 1, api.VText), ins(api.TKind, 1, 2, api.VText))
	// by the numbers they came with the last two adds are alike, and so are the first and the third one: by what they are of only the first two
	add := api.TOp + api.OpAdd
	becomes(t, round(regs(6, 7), reg(0), reg(0), reg(1), reg(2), ins(add, 1, 0, 2), ins(add, 1, 1, 2), ins(add, 1, 1, 3), ins(add, 1, 2, 3)),
		reg(0), reg(1), reg(2), ins(add, 1, 0, 1), ins(add, 1, 0, 2), ins(add, 1, 1, 2))
	r := round(regs(3, -1, 6, 10),
		reg(5), reg(5), val(num(9)), reg(5), ins(api.TKind, 1, 3, api.VTable), val(num(9)), ins(api.TGet, 1, 3, 5), ins(api.TKind, 0, 1, api.VTable), ins(api.TSet, 1, 3, 5, 1),
		ins(api.TLen, 1, 3), ins(api.TNext, 1, 1, 5), emit(9), ins(add, 1, 9, 5), ins(api.TOp+api.OpNot, 1, 12), ins(api.TFalse, 1, 13), ins(api.TNew, 1), ins(add, 1, 9, 2), ins(api.TOp+api.OpNeg, 1, 16), reg(3),
	)
	r.Snaps[0].Regs = regs(1)
	r.Snaps[1].Regs = regs(-1, 3, 2)
	u := becomes(t, r,
		reg(5), val(num(9)), ins(api.TKind, 1, 0, api.VTable), ins(api.TGet, 1, 0, 1), ins(api.TSet, 1, 0, 1, 0),
		ins(api.TLen, 1, 0), ins(api.TNext, 1, 0, 1), emit(5), ins(add, 1, 5, 1), ins(api.TOp+api.OpNot, 1, 8), ins(api.TFalse, 1, 9), ins(api.TNew, 1), ins(api.TOp+api.OpNeg, 1, 8), reg(3))
	if !slices.Equal(u.Snaps[0].Regs, regs(0)) || !slices.Equal(u.Snaps[1].Regs, regs(-1, 0, 1)) || !slices.Equal(u.Snaps[2].Regs, regs(0, -1, 3, 6)) {
		t.Errorf("snapshots: %+v", u.Snaps)
	}
	for _, v := range []api.Value{tab(0), tab(1), num(1)} {
		for fuel := range 30 {
			nobodyTells(t, program(), r, u, ahead(num(1), num(2), num(3), num(4), num(5), v), fuel)
		}
	}
}

// M2: each order leaves by its own snapshot still, with what registers have by then.
func TestOwnSnap(t *testing.T) {
	r := api.Trace{Fun: 1, Head: 2}
	for i := range 6 {
		first := len(r.Ins)
		r.Ins = append(r.Ins, reg(0), reg(i), reg(0), ins(api.TTrue, i, first+1))
		entries := regs()
		entries[(i+1)%6] = first + 2
		if i > 0 {
			entries[i] = first - 3
		}
		r.Snaps = append(r.Snaps, api.Snap{PC: i % 5, Steps: i, Regs: entries})
	}
	r.Snaps = append(r.Snaps, api.Snap{PC: 2, Steps: 6, Regs: regs(-1, 4, 8, 12, 16, 20)})
	want := []api.Ins{reg(0), ins(api.TTrue, 0, 0)}
	for i := 1; i < 6; i++ {
		want = append(want, reg(i), ins(api.TTrue, i, 2*i))
	}
	u := becomes(t, r, want...)
	for i := range 6 {
		with := []api.Value{num(11), num(12), num(13), num(14), num(15), num(16)}
		with[i] = no
		for fuel := range 40 {
			nobodyTells(t, program(), r, u, ahead(with...), fuel)
		}
		after := ahead(with...)
		after.Steps, after.Frames[1].PC = 5+i, i%5
		after.Frames[1].Regs[(i+1)%6] = with[0]
		if i > 0 {
			after.Frames[1].Regs[i] = with[i-1]
		}
		if got, _ := trace.Run(program(), u, ahead(with...), 11); !sample.Same(got, after) {
			t.Errorf("left by %d: %+v", i, got)
		}
	}
}

// M1: there may be as many orders and snapshots as there are at most, all of which are alike, or none.
func TestMany(t *testing.T) {
	for _, many := range []int{0, 1, 2, 3, 399, api.MaxIns} {
		alike, apart := round(regs(many-1)), round(regs(many-1))
		sums := round(regs())
		for i := range many {
			alike.Ins = append(alike.Ins, reg(2))
			apart.Ins = append(apart.Ins, val(num(int64(i))))
			if i < 2 {
				sums.Ins = append(sums.Ins, reg(0))
			} else {
				sums.Ins = append(sums.Ins, ins(api.TOp+api.OpAdd, 1, i-2, i-1-i%2))
			}
		}
		stays(t, apart)
		if many == 0 {
			continue
		}
		becomes(t, alike, reg(2))
		want := []api.Ins{reg(0)}
		for i := 2; i < many; i += 2 {
			want = append(want, ins(api.TOp+api.OpAdd, 1, i/2-1, i/2-1))
		}
		becomes(t, sums, want...)
	}
	for _, many := range []int{2, 3, 399, api.MaxSnaps} {
		r := round(regs(2), reg(0), reg(0), ins(api.TOp+api.OpNeg, 0, 1))
		r.Snaps = append(slices.Repeat(r.Snaps[:1], many-1), r.Snaps[2])
		r.Snaps[many-1].Steps = many
		becomes(t, r, reg(0), ins(api.TOp+api.OpNeg, 0, 0))
	}
	r := round(regs(1), reg(3), reg(3))
	r.Snaps = r.Snaps[2:]
	becomes(t, r, reg(3))
}

// M1: the Steps of a round may be as many as there are.
func TestLongRound(t *testing.T) {
	for _, steps := range []int{1, 2, 59994, 59995, 59996, 60000} {
		r := round(regs(1, 2), reg(1), reg(1), ins(api.TOp+api.OpNot, 1, 1))
		r.Snaps[1].Steps, r.Snaps[2].Steps = min(2, steps), steps
		u := becomes(t, r, reg(1), ins(api.TOp+api.OpNot, 1, 0))
		for _, fuel := range []int{0, steps + 4, steps + 5, steps + 6, 2*steps + 5, 60000} {
			nobodyTells(t, program(), r, u, ahead(num(3)), min(fuel, api.MaxFuel))
		}
	}
}

// M1: the zero trace, if the trace, or the program, may not be.
func TestWrong(t *testing.T) {
	r := func() api.Trace {
		return round(regs(2), val(num(1)), reg(1), ins(api.TOp+api.OpNeg, 0, 0), ins(api.TTrue, 1, 2), ins(api.TOp+api.OpAdd, 1, 1, 2), reg(1), val(num(1)))
	}
	if isZero(holds(t, program(), r())) {
		t.Fatal("it may be")
	}
	wrong := program()
	wrong.Main = 0
	short := program()
	short.Funs[1].Regs = 5
	for _, p := range []api.Code{{}, wrong, short, {Funs: program().Funs[:1]}} {
		if u := same.Of(p, r()); !isZero(u) {
			t.Errorf("of %+v: %+v", p, u)
		}
	}
	for i, change := range []func(r *api.Trace){
		func(r *api.Trace) { *r = api.Trace{} },
		func(r *api.Trace) { r.Fun = 2 },
		func(r *api.Trace) { r.Fun = -1 },
		func(r *api.Trace) { r.Fun = math.MaxInt },
		func(r *api.Trace) { r.Fun = 0 },
		func(r *api.Trace) { r.Head = 3 },
		func(r *api.Trace) { r.Head = math.MinInt },
		func(r *api.Trace) { r.Snaps = nil },
		func(r *api.Trace) { r.Snaps = r.Snaps[2:] },
		func(r *api.Trace) { r.Snaps = slices.Repeat(r.Snaps, 134) },
		func(r *api.Trace) { r.Snaps[2].Steps = 0 },
		func(r *api.Trace) { r.Snaps[2].Steps = 60001 },
		func(r *api.Trace) { r.Snaps[0].Steps = 4 },
		func(r *api.Trace) { r.Snaps[0].Regs = r.Snaps[0].Regs[1:] },
		func(r *api.Trace) { r.Snaps[0].Regs[0] = 2 },
		func(r *api.Trace) { r.Snaps[1].Regs[0] = 3 },
		func(r *api.Trace) { r.Snaps[2].Regs[0] = 3 },
		func(r *api.Trace) { r.Snaps[2].Regs[0] = 7 },
		func(r *api.Trace) { r.Snaps[2].Regs[0] = -2 },
		func(r *api.Trace) { r.Ins = append(r.Ins, slices.Repeat(r.Ins[:1], 394)...) },
		func(r *api.Trace) { r.Ins[0].V = tab(0) },
		func(r *api.Trace) { r.Ins[0].V = fun(2) },
		func(r *api.Trace) { r.Ins[0].V = text(sample.Longest() + "m") },
		func(r *api.Trace) { r.Ins[0].V = api.Value{Kind: api.VBool, N: 2} },
		func(r *api.Trace) { r.Ins[6].V.S = "1" },
		func(r *api.Trace) { r.Ins[6].Snap = 1 },
		func(r *api.Trace) { r.Ins[6].X = 1 },
		func(r *api.Trace) { r.Ins[5].Y = 1 },
		func(r *api.Trace) { r.Ins[5].V = num(1) },
		func(r *api.Trace) { r.Ins[5].X = -1 },
		func(r *api.Trace) { r.Ins[1].X = 6 },
		func(r *api.Trace) { r.Ins[2].X = 2 },
		func(r *api.Trace) { r.Ins[2].Y = 1 },
		func(r *api.Trace) { r.Ins[2].Snap = -1 },
		func(r *api.Trace) { r.Ins[2].Snap = 2 },
		func(r *api.Trace) { r.Ins[2].V = num(1) },
		func(r *api.Trace) { r.Ins[3].X = 4 },
		func(r *api.Trace) { r.Ins[3].X = math.MaxInt },
		func(r *api.Trace) { r.Ins[3].Op, r.Ins[3].Y = api.TKind, 6 },
		func(r *api.Trace) { r.Ins[4].Y = 3 },
		func(r *api.Trace) { r.Ins[4].X = -1 },
		func(r *api.Trace) { r.Ins[4].Op = api.TOp },
		func(r *api.Trace) { r.Ins[4].Op = api.TOp + api.OpNeg + 1 },
		func(r *api.Trace) { r.Ins[4].Op = math.MinInt },
	} {
		one := r()
		change(&one)
		if u := same.Of(program(), one); !isZero(u) {
			t.Errorf("%d: %+v: %+v", i, one, u)
		}
	}
}

// M1 to M3: what is bettered already stays as it is.
func TestTwice(t *testing.T) {
	r := round(regs(2, 4), val(num(1)), val(num(1)), ins(api.TOp+api.OpNeg, 0, 1), ins(api.TTrue, 1, 2), ins(api.TOp+api.OpNeg, 1, 0), ins(api.TTrue, 0, 4), emit(4), emit(2))
	stays(t, same.Of(program(), r))
}
