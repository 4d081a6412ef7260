package dead_test

import (
	"math"
	"slices"
	"testing"

	"packtrail/api"
	"packtrail/dead"
	"packtrail/sample"
	"packtrail/trace"
)

var (
	num  = sample.Num
	text = sample.Text
	tab  = sample.Tab
	fun  = sample.Fun
	yes  = sample.Bool(true)
	no   = sample.Bool(false)
	none api.Value
)

// Orders that never leave a trace, though they name a snapshot.
const (
	opSame = api.TOp + api.OpSame
	opNot  = api.TOp + api.OpNot
)

// ins is an order that leaves by a snapshot, with some of its fields, X first.
func ins(op, snap int, fields ...int) api.Ins {
	all := append(slices.Clone(fields), 0, 0, 0)
	return api.Ins{Op: op, X: all[0], Y: all[1], Z: all[2], Snap: snap}
}

// val is a TVal.
func val(v api.Value) api.Ins { return api.Ins{Op: api.TVal, V: v, Snap: -1} }

// reg is a TReg.
func reg(n int) api.Ins { return ins(api.TReg, -1, n) }

// emit is a TEmit.
func emit(n int) api.Ins { return ins(api.TEmit, -1, n) }

// not is an OpNot.
func not(x int) api.Ins { return ins(opNot, 1, x) }

// alike is an OpSame.
func alike(x, y int) api.Ins { return ins(opSame, 1, x, y) }

// program has two functions, of which main, the second one, has six registers and five orders.
func program() api.Code {
	do := api.Instr{Op: api.CNew}
	return api.Code{Main: 1, Funs: []api.Fn{
		{Params: 1, Regs: 2, Code: []api.Instr{{Op: api.CReturn}}},
		{Regs: 6, Code: []api.Instr{do, do, do, do, {Op: api.CLoop, A: 2}}},
	}}
}

// regs are the entries of a snapshot, with those of the registers from 0 on, and -1 behind them.
func regs(entries ...int) []int {
	return append(slices.Clone(entries), slices.Repeat([]int{-1}, 6-len(entries))...)
}

// round is a trace of program's main with these orders and three steps, with these entries of its end. It is left by the snapshot 0 to where the round began, by 1 to the order 4, behind two steps; neither of them needs an order.
func round(end []int, orders ...api.Ins) api.Trace {
	return api.Trace{Fun: 1, Head: 2, Ins: orders, Snaps: []api.Snap{
		{PC: 2, Regs: regs()}, {PC: 4, Steps: 2, Regs: regs()}, {PC: 2, Steps: 3, Regs: end},
	}}
}

// ahead is a state at the head of round, with these registers, and nil behind them; below it is another frame of main's.
func ahead(with ...api.Value) api.State {
	return api.State{
		Frames: []api.Frame{
			{Fun: 1, PC: 3, Regs: []api.Value{num(-1), num(-2), num(-3), num(-4), num(-5), num(-6)}},
			{Fun: 1, PC: 2, Dest: 4, Regs: append(slices.Clone(with), make([]api.Value, 6-len(with))...)},
		},
		Tables: []api.Table{{}, {Keys: []api.Value{num(1), text("k"), num(2), tab(0)}, Vals: []api.Value{text("a"), tab(0), yes, tab(1)}}},
		Out:    []string{"x"},
		Steps:  5,
	}
}

// states are some at the head of round.
func states() []api.State {
	full := ahead(num(1), num(2), yes, tab(1))
	full.Tables = append(full.Tables, make([]api.Table, api.MaxTables-2)...)
	return []api.State{
		ahead(), full, ahead(tab(1), num(1), num(7), text("z"), yes, no), ahead(num(1), num(2), num(3), num(4), num(5), num(6)),
		ahead(text("a"), text("b"), text(sample.Longest()), text(""), num(0), none), ahead(tab(0), tab(1), text("k"), none, fun(0), fun(1)),
		ahead(no, yes, none, num(0), tab(1), num(1)), ahead(num(0), num(0), num(math.MinInt64), num(-1), tab(0), text("1")),
	}
}

// becomes asks Of at a trace of program that may be; it holds the answer against O1, O2 and O3, and against the orders that are wanted.
func becomes(t *testing.T, r api.Trace, want ...api.Ins) api.Trace {
	t.Helper()
	if !trace.May(program(), r) {
		t.Fatalf("may not be: %+v", r)
	}
	u := holds(t, program(), r)
	if !slices.Equal(u.Ins, want) {
		t.Errorf("%+v:\n%+v;\nwant %+v", r, u.Ins, want)
	}
	for _, s := range states() {
		for fuel := range 16 {
			nobodyTells(t, program(), r, u, s, fuel)
		}
	}
	return u
}

// stays asks Of at a trace in which somebody asks for everything.
func stays(t *testing.T, r api.Trace) {
	t.Helper()
	if u := becomes(t, r, r.Ins...); !sample.SameTrace(u, r) {
		t.Errorf("%+v: %+v", r, u)
	}
}

// leaver is an order that may leave, with the same order as X, Y and Z, as far as it has these.
func leaver(op, snap, x int) api.Ins {
	switch op {
	case api.TNew:
		return ins(op, snap)
	case api.TSet:
		return ins(op, snap, x, x, x)
	case api.TGet, api.TNext:
		return ins(op, snap, x, x)
	case api.TKind:
		return ins(op, snap, x, api.VTable)
	case api.TLen, api.TTrue, api.TFalse, opNot, api.TOp + api.OpNeg:
		return ins(op, snap, x)
	}
	return ins(op, snap, x, x)
}

// leavers are the Ops of all orders that may leave.
func leavers() []int {
	return []int{
		api.TNew, api.TGet, api.TSet, api.TLen, api.TNext, api.TKind, api.TTrue, api.TFalse, api.TOp + api.OpAdd, api.TOp + api.OpSub, api.TOp + api.OpMul,
		api.TOp + api.OpDiv, api.TOp + api.OpMod, api.TOp + api.OpCat, api.TOp + api.OpLess, api.TOp + api.OpMost, api.TOp + api.OpNeg,
	}
}

// O3: of each kind that has but a value, what nobody asks for goes, wherever it stands; orders and snapshots behind it ask for the same as ahead.
func TestNobodyAsks(t *testing.T) {
	for _, o := range []api.Ins{reg(0), reg(5), val(none), val(num(7)), val(text("a")), val(fun(1)), alike(0, 0), alike(0, 1), not(0), not(1)} {
		becomes(t, round(regs(-1, 1, 0), reg(0), reg(1), o, emit(0), emit(1)), reg(0), reg(1), emit(0), emit(1))
		becomes(t, round(regs(), reg(0), reg(1), emit(0), emit(1), o, o), reg(0), reg(1), emit(0), emit(1))
		r := round(regs(1, 3), reg(0), reg(1), o, ins(api.TOp+api.OpAdd, 1, 0, 1), o, emit(3))
		u := becomes(t, r, reg(0), reg(1), ins(api.TOp+api.OpAdd, 1, 0, 1), emit(2))
		if end := u.Snaps[2].Regs; !slices.Equal(end, regs(1, 2)) {
			t.Errorf("the end is %v", end)
		}
	}
	for _, o := range []api.Ins{reg(0), val(num(7))} {
		becomes(t, round(regs(), o))
		becomes(t, round(regs(), o, o, reg(1), emit(2), o), reg(1), emit(0))
	}
}

// O2: what an order asks for stays, whichever field it stands in.
func TestAskedByOrder(t *testing.T) {
	for _, o := range []api.Ins{reg(1), val(num(7)), alike(0, 0), not(0)} {
		for _, op := range append(leavers(), opSame, opNot, api.TEmit) {
			if op == api.TNew {
				continue
			}
			by := leaver(op, 1, 1)
			if op == api.TEmit {
				by = emit(1)
			}
			u := becomes(t, round(regs(), reg(0), o, by, emit(0)), kept(o, by)...)
			if op != opSame && op != opNot && !slices.Contains(u.Ins, o) {
				t.Errorf("%+v is gone, which %+v asks for", o, by)
			}
		}
		stays(t, round(regs(), reg(0), o, alike(1, 0), emit(2)))
		stays(t, round(regs(), reg(0), o, alike(0, 1), emit(2)))
		for _, op := range []int{api.TGet, api.TNext, api.TOp + api.OpLess, api.TOp + api.OpCat} {
			stays(t, round(regs(), reg(0), o, ins(op, 1, 1, 0)))
			stays(t, round(regs(), reg(0), o, ins(op, 1, 0, 1)))
		}
		stays(t, round(regs(), reg(0), o, ins(api.TSet, 1, 1, 0, 0)))
		stays(t, round(regs(), reg(0), o, ins(api.TSet, 1, 0, 1, 0)))
		stays(t, round(regs(), reg(0), o, ins(api.TSet, 1, 0, 0, 1)))
	}
}

// kept are the orders that are left of reg(0), an order, one that asks for that one, and emit(0).
func kept(o, by api.Ins) []api.Ins {
	if by.Op == opSame || by.Op == opNot {
		return []api.Ins{reg(0), emit(0)}
	}
	return []api.Ins{reg(0), o, by, emit(0)}
}

// O3: a number that names a register or a kind, or nothing at all, asks for no order.
func TestNoOrdersNumber(t *testing.T) {
	becomes(t, round(regs(), val(num(1)), val(num(2)), reg(1), emit(2)), reg(1), emit(0))
	for kind := api.VNil; kind <= api.VFun; kind++ {
		becomes(t, round(regs(), reg(0), reg(1), reg(2), reg(3), reg(4), reg(5), reg(5), ins(api.TKind, 1, 6, kind)), reg(5), ins(api.TKind, 1, 0, kind))
	}
	becomes(t, round(regs(), reg(0), ins(api.TNew, 1)), ins(api.TNew, 1))
	becomes(t, round(regs(2), reg(0), reg(1), not(1)), reg(1), not(0))
	for _, op := range []int{api.TLen, api.TTrue, api.TFalse, api.TOp + api.OpNeg} {
		becomes(t, round(regs(), reg(0), reg(1), ins(op, 1, 1)), reg(1), ins(op, 1, 0))
	}
	for _, op := range []int{api.TGet, api.TNext, opSame, api.TOp + api.OpAdd} {
		becomes(t, round(regs(-1, 3), reg(0), reg(1), reg(2), ins(op, 1, 1, 2)), reg(1), reg(2), ins(op, 1, 0, 1))
	}
	becomes(t, round(regs(), reg(0), reg(1), emit(1)), reg(1), emit(0))
}

// O2: what the end of the round asks for stays, in whichever register.
func TestAskedByEnd(t *testing.T) {
	for _, o := range []api.Ins{reg(4), val(num(7)), alike(0, 0), not(0)} {
		for place := range 6 {
			entries := regs()
			entries[place] = 1
			r := round(entries, reg(0), o, emit(0))
			stays(t, r)
			got, _ := trace.Run(program(), dead.Of(program(), r), ahead(no, yes, none, none, text("four")), 8)
			want := map[api.Ins]api.Value{reg(4): text("four"), val(num(7)): num(7), alike(0, 0): yes, not(0): yes}[o]
			if got.Frames[1].Regs[place] != want {
				t.Errorf("%+v: the register %d is %+v", o, place, got.Frames[1].Regs[place])
			}
		}
	}
	// with no other snapshot at all
	r := round(regs(-1, 1), reg(2), reg(3), val(num(1)))
	r.Snaps = r.Snaps[2:]
	becomes(t, r, reg(3))
}

// O2: what a snapshot asks for stays, if an order that stays may leave by it, whichever kind that one is of.
func TestAskedByLeaving(t *testing.T) {
	for _, o := range []api.Ins{reg(4), val(num(7)), alike(0, 0), not(0)} {
		for _, op := range leavers() {
			for place := range 6 {
				r := round(regs(), reg(0), o, leaver(op, 0, 0))
				r.Snaps[0].Regs[place] = 1
				if op == api.TNew && trace.Asks(o.Op) == 0 { // nobody asks for the first
					r.Snaps[0].Regs[(place+1)%6] = 0
				}
				stays(t, r)
			}
		}
	}
	// each of them leaves, with what the snapshot says
	for _, op := range leavers() {
		r := round(regs(), reg(0), val(text("here")), not(0), leaver(op, 0, 0))
		r.Snaps[0] = api.Snap{PC: 3, Steps: 1, Regs: regs(-1, 1, 2)}
		u := becomes(t, r, r.Ins...)
		for _, s := range states() {
			s.Frames[1].Regs[0] = map[bool]api.Value{true: fun(0), false: none}[op == api.TFalse]
			for len(s.Tables) < api.MaxTables {
				s.Tables = append(s.Tables, api.Table{})
			}
			got := nobodyTells(t, program(), r, u, s, 20)
			if f := got.Frames[1]; f.PC != 3 || got.Steps != 6 || f.Regs[1] != text("here") || f.Regs[2].Kind != api.VBool {
				t.Errorf("the order %d: %+v", op, got)
			}
		}
	}
}

// O3: a snapshot by which no order may leave does not count.
func TestNobodyLeaves(t *testing.T) {
	r := round(regs(), reg(0), reg(1), val(num(7)), not(1), alike(1, 2), emit(0))
	r.Snaps[0].Regs = regs(1, 2, 3, 4, 0, 1)
	u := becomes(t, r, reg(0), emit(0))
	if len(u.Snaps) > 1 {
		for _, n := range u.Snaps[0].Regs {
			if n > 0 {
				t.Errorf("the snapshot is %+v", u.Snaps[0])
			}
		}
	}
	// the others still count
	r = round(regs(), reg(0), reg(1), reg(2), reg(3), ins(api.TTrue, 1, 0))
	r.Snaps[0].Regs, r.Snaps[1].Regs, r.Snaps[2].Regs = regs(1, 2, 3), regs(-1, 2), regs(-1, -1, 3)
	becomes(t, r, reg(0), reg(2), reg(3), ins(api.TTrue, 1, 0))
	// it may name orders that others behind it ask for, and those that are behind it
	r = round(regs(), reg(0), reg(1), ins(api.TTrue, 1, 1), reg(3), val(num(7)), emit(4))
	r.Snaps[0].Regs = regs(0, 1, 3, 4)
	becomes(t, r, reg(1), ins(api.TTrue, 1, 0), val(num(7)), emit(2))
}

// O3: OpSame and OpNot are never an error: what only their snapshots ask for goes, also where they stay themselves.
func TestNeverLeaves(t *testing.T) {
	for _, o := range []api.Ins{ins(opSame, 0, 0, 0), ins(opNot, 0, 0)} {
		r := round(regs(-1, -1, 4), reg(0), reg(1), val(num(7)), not(1), o)
		r.Snaps[0].Regs = regs(1, 2, 3, 0, -1, 2)
		becomes(t, r, reg(0), o)
		// nor does it count, if they go
		r.Snaps[2].Regs = regs()
		becomes(t, r)
		// but where another one may leave by it, it does
		r = round(regs(-1, -1, 4), reg(0), reg(1), val(num(7)), not(1), o, ins(api.TTrue, 0, 4))
		r.Snaps[0].Regs = regs(1, 2, 3, 0, -1, 2)
		stays(t, r)
	}
}

// O3: what only orders that go ask for goes, too, with all that these lean on.
func TestChains(t *testing.T) {
	becomes(t, round(regs(), reg(0), not(0), not(1), not(2), not(3)))
	becomes(t, round(regs(), reg(0), val(num(1)), alike(0, 1), not(2), alike(3, 0), emit(0)), reg(0), emit(0))
	becomes(t, round(regs(3), reg(0), not(0), not(1), not(2), not(3), not(4)), reg(0), not(0), not(1), not(2))
	stays(t, round(regs(5), reg(0), not(0), not(1), alike(1, 2), not(3), alike(4, 0)))
	stays(t, round(regs(), reg(0), not(0), not(1), alike(1, 2), not(3), emit(4)))
	// two ways that meet: one is asked for
	becomes(t, round(regs(), reg(0), not(0), reg(1), alike(1, 2), not(1), emit(4)), reg(0), not(0), not(1), emit(2))
	for _, many := range []int{2, 399, api.MaxIns} {
		r := round(regs(), reg(0))
		for i := 1; i < many; i++ {
			r.Ins = append(r.Ins, []api.Ins{not(i - 1), alike(i-1, i/2)}[i%2])
		}
		becomes(t, r)
		r.Snaps[2].Regs = regs(many - 1)
		stays(t, r)
		r.Snaps[2].Regs = regs(many / 2)
		becomes(t, r, r.Ins[:many/2+1]...)
	}
}

// O2: what may leave the trace, or does something, stays, though nobody asks for its value.
func TestOthersStay(t *testing.T) {
	for _, op := range leavers() {
		for _, o := range []api.Ins{leaver(op, 0, 0), leaver(op, 1, 0)} {
			stays(t, round(regs(), reg(0), emit(0), o))
			stays(t, round(regs(), reg(0), emit(0), o, o, emit(0), o))
			becomes(t, round(regs(), reg(0), reg(1), emit(0), o, not(1), emit(0)), reg(0), emit(0), o, emit(0))
		}
	}
	stays(t, round(regs(), reg(0), emit(0), emit(0)))
	stays(t, round(regs()))
	// a table that nobody asks for is there, and counts
	u := becomes(t, round(regs(), ins(api.TNew, 1), reg(0)), ins(api.TNew, 1))
	if got, _ := trace.Run(program(), u, ahead(), 14); len(got.Tables) != 5 {
		t.Errorf("%d tables", len(got.Tables))
	}
	// what is asked of a value that stands in the trace is asked still
	stays(t, round(regs(), val(num(1)), ins(api.TTrue, 1, 0), ins(api.TFalse, 0, 0)))
	stays(t, round(regs(), val(num(1)), val(num(2)), ins(api.TOp+api.OpAdd, 0, 0, 1)))
}

// O2: each order leaves by its own snapshot still, with what registers have by then.
func TestOwnSnap(t *testing.T) {
	r := api.Trace{Fun: 1, Head: 2, Ins: []api.Ins{val(num(8))}, Snaps: []api.Snap{{PC: 1, Regs: regs()}}}
	var want []api.Ins
	for i := 1; i < 6; i++ {
		at, now := len(r.Ins), len(want)
		r.Ins = append(r.Ins, reg(0), reg(i), ins(opNot, i-1, at), val(text("v")), ins(opSame, i-1, at+2, 0), ins(api.TTrue, i, at+1), ins(opNot, i, at+4))
		want = append(want, reg(i), val(text("v")), ins(api.TTrue, i, now))
		entries := regs()
		entries[i], entries[(i+1)%6] = at+3, at+1
		r.Snaps = append(r.Snaps, api.Snap{PC: i % 5, Steps: i, Regs: entries})
	}
	r.Snaps = append(r.Snaps, api.Snap{PC: 2, Steps: 6, Regs: regs(2, 4, 9, 11, 16, -1)})
	u := becomes(t, r, want...)
	for i := 1; i < 6; i++ {
		with := []api.Value{num(11), num(12), num(13), num(14), num(15), num(16)}
		with[i] = no
		for fuel := range 40 {
			nobodyTells(t, program(), r, u, ahead(with...), fuel)
		}
		after := ahead(with...)
		after.Steps, after.Frames[1].PC = 5+i, i%5
		after.Frames[1].Regs[i], after.Frames[1].Regs[(i+1)%6] = text("v"), no
		if got, _ := trace.Run(program(), u, ahead(with...), 11); !sample.Same(got, after) {
			t.Errorf("left by %d: %+v", i, got)
		}
	}
}

// O2: what a round leaves in registers is there for the next one.
func TestNextRound(t *testing.T) {
	r := round(regs(3, 0), reg(0), reg(1), val(num(1)), ins(api.TOp+api.OpAdd, 1, 0, 1), not(1), val(no), alike(4, 5), emit(3), reg(5))
	u := becomes(t, r, reg(0), reg(1), ins(api.TOp+api.OpAdd, 1, 0, 1), emit(2))
	got, _ := trace.Run(program(), u, ahead(num(1), num(1)), 5+3*4)
	if !slices.Equal(got.Out, []string{"x", "2", "3", "5", "8"}) || got.Steps != 17 {
		t.Errorf("told %q, %d steps", got.Out, got.Steps)
	}
}

// O1: there may be as many orders and snapshots as there are at most, all of which are asked for, or none.
func TestMany(t *testing.T) {
	for _, many := range []int{1, 2, 3, 399, api.MaxIns} {
		idle, told := round(regs()), round(regs(many/2), reg(0))
		for i := range many {
			idle.Ins = append(idle.Ins, []api.Ins{reg(i % 6), val(num(int64(i)))}[i%2])
		}
		for i := 1; i < many; i++ {
			told.Ins = append(told.Ins, ins(api.TOp+api.OpSub, 1, i-1, i/2))
		}
		becomes(t, idle)
		stays(t, told)
		idle.Snaps[2].Regs = regs(many-1, 0)
		becomes(t, idle, slices.Compact([]api.Ins{idle.Ins[0], idle.Ins[many-1]})...)
	}
	for _, many := range []int{2, 3, 399, api.MaxSnaps} {
		r := round(regs(), reg(0), reg(1), val(num(1)), ins(api.TTrue, many-2, 0))
		r.Snaps = append(slices.Repeat(r.Snaps[:1], many-1), r.Snaps[2])
		for i := range many - 1 {
			r.Snaps[i].Regs = regs(-1, -1, 2)
		}
		r.Snaps[many-2].Regs, r.Snaps[many-1].Steps = regs(-1, 1), many
		if u := becomes(t, r, reg(0), reg(1), ins(api.TTrue, many-2, 0)); !slices.Equal(u.Snaps[many-2].Regs, regs(-1, 1)) {
			t.Errorf("the snapshot is %+v", u.Snaps[many-2])
		}
	}
}

// O1: the Steps of a round may be as many as there are.
func TestLongRound(t *testing.T) {
	for _, steps := range []int{1, 2, 59994, 59995, 59996, 60000} {
		r := round(regs(-1, -1, -1, 3), reg(0), reg(2), not(1), not(0))
		r.Snaps[1].Steps, r.Snaps[2].Steps = min(2, steps), steps
		u := becomes(t, r, reg(0), not(0))
		for _, fuel := range []int{0, steps + 4, steps + 5, steps + 6, 2*steps + 5, 60000} {
			nobodyTells(t, program(), r, u, ahead(tab(1), none, num(1)), min(fuel, api.MaxFuel))
		}
	}
}

// O1: the zero trace, if the trace, or the program, may not be; also where what is wrong would be gone.
func TestWrong(t *testing.T) {
	r := func() api.Trace {
		return round(regs(5), val(num(1)), reg(1), ins(api.TSet, 1, 1, 0, 0), not(1), ins(api.TTrue, 1, 3), alike(1, 3), not(0))
	}
	if isZero(holds(t, program(), r())) {
		t.Fatal("it may be")
	}
	wrong := program()
	wrong.Main = 0
	short := program()
	short.Funs[1].Regs = 5
	for _, p := range []api.Code{{}, wrong, short, {Funs: program().Funs[:1]}} {
		if u := dead.Of(p, r()); !isZero(u) {
			t.Errorf("of %+v: %+v", p, u)
		}
	}
	for i, change := range []func(r *api.Trace){
		func(r *api.Trace) { *r = api.Trace{} },
		func(r *api.Trace) { r.Fun = 2 },
		func(r *api.Trace) { r.Fun = -1 },
		func(r *api.Trace) { r.Fun = math.MaxInt },
		func(r *api.Trace) { r.Fun = 0 },
		func(r *api.Trace) { r.Head = 3 },
		func(r *api.Trace) { r.Head = math.MinInt },
		func(r *api.Trace) { r.Snaps = nil },
		func(r *api.Trace) { r.Snaps = r.Snaps[2:] },
		func(r *api.Trace) { r.Snaps = slices.Repeat(r.Snaps, 134) },
		func(r *api.Trace) { r.Snaps[2].Steps = 0 },
		func(r *api.Trace) { r.Snaps[2].Steps = 60001 },
		func(r *api.Trace) { r.Snaps[0].Steps = 4 },
		func(r *api.Trace) { r.Snaps[0].PC = 5 },
		func(r *api.Trace) { r.Snaps[0].Regs = r.Snaps[0].Regs[1:] },
		func(r *api.Trace) { r.Snaps[0].Regs[0] = 2 },
		func(r *api.Trace) { r.Snaps[0].Regs[0] = 7 },
		func(r *api.Trace) { r.Snaps[1].Regs[0] = 2 },
		func(r *api.Trace) { r.Snaps[1].Regs[0] = 3 },
		func(r *api.Trace) { r.Snaps[2].Regs[0] = 2 },
		func(r *api.Trace) { r.Snaps[2].Regs[0] = 7 },
		func(r *api.Trace) { r.Snaps[2].Regs[0] = -2 },
		func(r *api.Trace) { r.Ins = append(r.Ins, slices.Repeat(r.Ins[3:4], 394)...) },
		func(r *api.Trace) { r.Ins[0].V = tab(0) },
		func(r *api.Trace) { r.Ins[0].V = fun(2) },
		func(r *api.Trace) { r.Ins[0].V = text(sample.Longest() + "m") },
		func(r *api.Trace) { r.Ins[0].Snap = 0 },
		func(r *api.Trace) { r.Ins[1].X = 6 },
		func(r *api.Trace) { r.Ins[2].X = 2 },
		func(r *api.Trace) { r.Ins[2].Snap = -1 },
		func(r *api.Trace) { r.Ins[4].Y = 1 },
		func(r *api.Trace) { r.Ins[5].Snap = 2 },
		func(r *api.Trace) { r.Ins[6].X = 6 },
		func(r *api.Trace) { r.Ins[6].X = 2 },
		func(r *api.Trace) { r.Ins[6].X = math.MaxInt },
		func(r *api.Trace) { r.Ins[6].Y = 1 },
		func(r *api.Trace) { r.Ins[6].Z = 1 },
		func(r *api.Trace) { r.Ins[6].V = num(1) },
		func(r *api.Trace) { r.Ins[6].Snap = -1 },
		func(r *api.Trace) { r.Ins[6].Snap = 2 },
		func(r *api.Trace) { r.Ins[6] = ins(opSame, 1, 0, 6) },
		func(r *api.Trace) { r.Ins[6] = ins(opSame, 1, 0, -1) },
		func(r *api.Trace) { r.Ins[6] = reg(6) },
		func(r *api.Trace) { r.Ins[6] = reg(-1) },
		func(r *api.Trace) { r.Ins[6] = val(tab(0)) },
		func(r *api.Trace) { r.Ins[6].Op = api.TOp },
		func(r *api.Trace) { r.Ins[6].Op = api.TOp + api.OpNeg + 1 },
		func(r *api.Trace) { r.Ins[6].Op = math.MinInt },
	} {
		one := r()
		change(&one)
		if u := dead.Of(program(), one); !isZero(u) {
			t.Errorf("%d: %+v: %+v", i, one, u)
		}
	}
}

// O1 to O3: what is bettered already stays as it is.
func TestTwice(t *testing.T) {
	r := round(regs(2, 4), reg(0), reg(2), not(1), not(0), alike(1, 2), reg(5), ins(api.TLen, 1, 1), val(num(1)))
	stays(t, dead.Of(program(), r))
}
