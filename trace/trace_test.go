package trace_test

import (
	"math"
	"slices"
	"strconv"
	"testing"

	"packtrail/api"
	"packtrail/machine"
	"packtrail/sample"
	"packtrail/trace"
)

var (
	num  = sample.Num
	text = sample.Text
	tab  = sample.Tab
	fun  = sample.Fun
	yes  = sample.Bool(true)
	no   = sample.Bool(false)
	none api.Value
)

// ins is an order that leaves by a snapshot, with some of its fields, X first.
func ins(op, snap int, fields ...int) api.Ins {
	all := append(slices.Clone(fields), 0, 0, 0)
	return api.Ins{Op: op, X: all[0], Y: all[1], Z: all[2], Snap: snap}
}

// val is a TVal.
func val(v api.Value) api.Ins { return api.Ins{Op: api.TVal, V: v, Snap: -1} }

// order is one of the machine's with some of its fields, A first.
func order(op int, fields ...int) api.Instr {
	all := append(slices.Clone(fields), 0, 0, 0)
	return api.Instr{Op: op, A: all[0], B: all[1], C: all[2]}
}

// program has three functions, of which main, the second one, has six registers and five orders.
func program() api.Code {
	return api.Code{Main: 1, Funs: []api.Fn{
		{Params: 2, Regs: 4, Code: []api.Instr{order(api.CReturn, 0)}},
		{Regs: 6, Code: []api.Instr{order(api.CNew, 0), order(api.CNew, 0), order(api.CNew, 0), order(api.CNew, 0), order(api.CLoop, 2)}},
		{Regs: 6, Code: []api.Instr{order(api.CNew, 0), order(api.CNew, 0), order(api.CReturn, 0)}},
	}}
}

// bare is a trace of program's main that does nothing in three steps.
func bare() api.Trace {
	return api.Trace{Fun: 1, Head: 2, Snaps: []api.Snap{{PC: 2, Steps: 3, Regs: []int{-1, -1, -1, -1, -1, -1}}}}
}

// ahead is a state at the head of bare, with these registers, and nil behind them; below it is another frame of main's.
func ahead(regs ...api.Value) api.State {
	return api.State{
		Frames: []api.Frame{
			{Fun: 1, PC: 3, Regs: []api.Value{num(-1), num(-2), num(-3), num(-4), num(-5), num(-6)}},
			{Fun: 1, PC: 2, Dest: 4, Regs: append(slices.Clone(regs), make([]api.Value, 6-len(regs))...)},
		},
		Tables: []api.Table{{}, {Keys: []api.Value{num(1), text("k"), num(2)}, Vals: []api.Value{text("a"), tab(0), yes}}},
		Out:    []string{"x"},
		Steps:  5,
	}
}

// tries is a trace that has the registers 0, 1 and 2 as its orders 0, 1 and 2, and an order that is tried as 3. If that one can be done, it tells "in", the order's value, if it has one, is in the register 5, and there were three steps; if not, the register 4 gets that of 1, and it goes on at the order 4, behind two steps.
func tries(tried api.Ins) api.Trace {
	r := bare()
	r.Ins = []api.Ins{ins(api.TReg, -1, 0), ins(api.TReg, -1, 1), ins(api.TReg, -1, 2), tried, val(text("in")), ins(api.TEmit, -1, 4)}
	if tried.Op >= api.TOp || tried.Op == api.TReg || tried.Op == api.TVal || tried.Op == api.TNew || tried.Op == api.TGet || tried.Op == api.TLen || tried.Op == api.TNext {
		r.Snaps[0].Regs[5] = 3
	}
	other := api.Snap{PC: 0, Regs: []int{0, 0, 0, 0, 0, 0}}
	r.Snaps = []api.Snap{other, {PC: 4, Steps: 2, Regs: []int{-1, -1, -1, -1, 1, -1}}, other, r.Snaps[0]}
	return r
}

// runs runs a trace, and holds what comes of it against what is wanted.
func runs(t *testing.T, r api.Trace, from api.State, fuel int, want api.State) {
	t.Helper()
	if !trace.May(program(), r) || !machine.May(program(), from) {
		t.Fatalf("may not be: %+v, %+v", r, from)
	}
	if got, code := trace.Run(program(), r, from, fuel); !sample.Same(got, want) || code != api.OK {
		t.Errorf("%+v\nfrom %+v\nwith %d: %+v, %d;\nwant %+v", r.Ins, from, fuel, got, code, want)
	}
}

// gives does an order that can be done; nothing changes but the register 5, if a value is wanted, and what change does.
func gives(t *testing.T, tried api.Ins, want api.Value, change func(s *api.State), regs ...api.Value) {
	t.Helper()
	after := ahead(regs...)
	change(&after)
	after.Steps, after.Out = 8, append(after.Out, "in")
	if tried.Op != api.TSet && tried.Op != api.TEmit && (tried.Op < api.TKind || tried.Op > api.TFalse) {
		after.Frames[1].Regs[5] = want
	}
	runs(t, tries(tried), ahead(regs...), 10, after)
}

// leaves does an order that can't be done.
func leaves(t *testing.T, tried api.Ins, regs ...api.Value) {
	t.Helper()
	after := ahead(regs...)
	after.Steps, after.Frames[1].PC, after.Frames[1].Regs[4] = 7, 4, after.Frames[1].Regs[1]
	for fuel := 8; fuel < 30; fuel += 7 {
		runs(t, tries(tried), ahead(regs...), fuel, after)
	}
}

// nothing changes nothing.
func nothing(*api.State) {}

// J3: TReg and TVal.
func TestHas(t *testing.T) {
	for _, v := range []api.Value{none, yes, no, num(-3), text("z"), tab(1), fun(2)} {
		for reg := range 6 {
			regs := make([]api.Value, 6)
			regs[reg] = v
			gives(t, ins(api.TReg, -1, reg), v, nothing, regs...)
		}
		if v.Kind != api.VTable {
			gives(t, val(v), v, nothing, num(1))
		}
	}
}

// J3: TNew, up to MaxTables.
func TestNew(t *testing.T) {
	for _, many := range []int{2, 3, 198, 199} {
		from, want := ahead(), ahead()
		from.Tables = append(from.Tables, make([]api.Table, many-2)...)
		want.Tables = append(want.Tables, make([]api.Table, many-1)...)
		want.Steps, want.Out, want.Frames[1].Regs[5] = 8, []string{"x", "in"}, tab(int64(many))
		runs(t, tries(ins(api.TNew, 1)), from, 10, want)
	}
	from := ahead(yes, no)
	from.Tables = append(from.Tables, make([]api.Table, 198)...)
	want := sample.Copy(from)
	want.Steps, want.Frames[1].PC, want.Frames[1].Regs[4] = 7, 4, no
	runs(t, tries(ins(api.TNew, 1)), from, 100, want)
}

// J3: TGet, TLen and TNext look at tables.
func TestLooks(t *testing.T) {
	get, length, next := ins(api.TGet, 1, 0, 1), ins(api.TLen, 1, 0), ins(api.TNext, 1, 0, 1)
	gives(t, get, text("a"), nothing, tab(1), num(1))
	gives(t, get, tab(0), nothing, tab(1), text("k"))
	gives(t, get, none, nothing, tab(1), num(3), none, none, none, yes)
	gives(t, get, none, nothing, tab(1), none, none, none, none, yes)
	gives(t, get, none, nothing, tab(0), num(1))
	gives(t, length, num(2), nothing, tab(1))
	gives(t, length, num(0), nothing, tab(0))
	gives(t, length, num(0), nothing, text(""))
	gives(t, length, num(300), nothing, text(sample.Longest()))
	gives(t, next, num(1), nothing, tab(1), none)
	gives(t, next, text("k"), nothing, tab(1), num(1))
	gives(t, next, num(2), nothing, tab(1), text("k"))
	gives(t, next, none, nothing, tab(1), num(2))
	gives(t, next, none, nothing, tab(0), none)
	leaves(t, next, tab(1), num(3))
	leaves(t, next, tab(0), num(1))
	for _, v := range []api.Value{none, yes, num(1), fun(1)} {
		leaves(t, get, v, num(1))
		leaves(t, length, v)
		leaves(t, next, v, none)
	}
	leaves(t, get, text("a"), num(1))
	leaves(t, next, text("a"), none)
}

// J3: TSet sets Z under Y in the table X; nothing of it is done, where it can't be.
func TestSet(t *testing.T) {
	set := ins(api.TSet, 1, 0, 1, 2)
	sets := func(k, v api.Value, keys, vals []api.Value) {
		t.Helper()
		gives(t, set, none, func(s *api.State) { s.Tables[1] = api.Table{Keys: keys, Vals: vals} }, tab(1), k, v)
	}
	sets(num(1), no, []api.Value{num(1), text("k"), num(2)}, []api.Value{no, tab(0), yes})
	sets(tab(1), fun(1), []api.Value{num(1), text("k"), num(2), tab(1)}, []api.Value{text("a"), tab(0), yes, fun(1)})
	sets(text("k"), none, []api.Value{num(1), num(2)}, []api.Value{text("a"), yes})
	sets(num(3), none, []api.Value{num(1), text("k"), num(2)}, []api.Value{text("a"), tab(0), yes})
	for _, v := range []api.Value{none, no, num(1), text("a"), fun(1)} {
		leaves(t, set, v, num(1), num(2))
	}
	leaves(t, set, tab(1), none, num(2))
	leaves(t, set, tab(1), none, none)
}

// J3: a full table takes no other key, but another value.
func TestFullTable(t *testing.T) {
	for k := range int64(102) {
		from := ahead(tab(1), num(k), text("new"))
		from.Tables[1] = api.Table{}
		for i := range int64(100) {
			from.Tables[1].Keys = append(from.Tables[1].Keys, num(i))
			from.Tables[1].Vals = append(from.Tables[1].Vals, yes)
		}
		want := sample.Copy(from)
		if k < 100 {
			want.Steps, want.Out, want.Tables[1].Vals[k] = 8, []string{"x", "in"}, text("new")
		} else {
			want.Steps, want.Frames[1].PC, want.Frames[1].Regs[4] = 7, 4, num(k)
		}
		runs(t, tries(ins(api.TSet, 1, 0, 1, 2)), from, 8, want)
	}
}

// J3: TEmit tells a Text.
func TestEmit(t *testing.T) {
	for v, told := range map[api.Value]string{
		none: "nil", yes: "true", no: "false", num(math.MinInt64): "-9223372036854775808",
		text(""): "", text("a b"): "a b", text(sample.Longest()): sample.Longest(), tab(1): "table", fun(2): "function",
	} {
		gives(t, ins(api.TEmit, -1, 2), none, func(s *api.State) { s.Out = append(s.Out, told) }, num(1), num(2), v)
	}
}

// J3: TKind holds, if the value is of that kind; TTrue and TFalse, if its Truth is that.
func TestGuards(t *testing.T) {
	for _, v := range []api.Value{none, yes, no, num(0), num(1), text(""), text("a"), tab(0), fun(0), fun(1)} {
		guard := func(holds bool, tried api.Ins) {
			t.Helper()
			if holds {
				gives(t, tried, none, nothing, yes, no, v)
			} else {
				leaves(t, tried, yes, no, v)
			}
		}
		for kind := api.VNil; kind <= api.VFun; kind++ {
			guard(v.Kind == kind, ins(api.TKind, 1, 2, kind))
		}
		guard(v != none && v != no, ins(api.TTrue, 1, 2))
		guard(v == none || v == no, ins(api.TFalse, 1, 2))
	}
}

// J3: TOp and an operation of X and Y.
func TestOperations(t *testing.T) {
	two := func(op int) api.Ins { return ins(api.TOp+op, 1, 0, 2) }
	for _, row := range []struct {
		op         int
		a, b, want api.Value
	}{
		{api.OpAdd, num(7), num(3), num(10)},
		{api.OpAdd, num(math.MaxInt64), num(1), num(math.MinInt64)},
		{api.OpSub, num(7), num(3), num(4)},
		{api.OpMul, num(7), num(3), num(21)},
		{api.OpDiv, num(-7), num(2), num(-4)},
		{api.OpMod, num(-7), num(2), num(1)},
		{api.OpCat, text("a"), num(3), text("a3")},
		{api.OpSame, tab(0), tab(0), yes},
		{api.OpSame, tab(0), tab(1), no},
		{api.OpSame, none, none, yes},
		{api.OpLess, num(2), num(3), yes},
		{api.OpLess, num(3), num(3), no},
		{api.OpLess, text("a"), text("ab"), yes},
		{api.OpMost, num(3), num(3), yes},
		{api.OpMost, num(4), num(3), no},
	} {
		gives(t, two(row.op), row.want, nothing, row.a, num(1), row.b)
	}
	for op := api.OpAdd; op <= api.OpMost; op++ {
		if op != api.OpSame {
			leaves(t, two(op), num(1), num(9), none)
			leaves(t, two(op), fun(0), num(9), num(1))
		}
	}
	leaves(t, two(api.OpDiv), num(1), num(1), num(0))
	leaves(t, two(api.OpMod), num(1), num(1), num(0))
	leaves(t, two(api.OpCat), text(sample.Longest()), num(1), text("a"))
}

// J3: OpNot and OpNeg are of X alone.
func TestOneSided(t *testing.T) {
	for _, first := range []api.Value{none, num(4), tab(0)} {
		gives(t, ins(api.TOp+api.OpNot, 1, 2), yes, nothing, first, none, no)
		gives(t, ins(api.TOp+api.OpNot, 1, 2), no, nothing, first, none, num(0))
		gives(t, ins(api.TOp+api.OpNeg, 1, 2), num(-5), nothing, first, none, num(5))
		leaves(t, ins(api.TOp+api.OpNeg, 1, 2), first, none, text("5"))
	}
}

// J3: registers become what they are to at once, where the round ends: two of them change places in each round.
func TestSwap(t *testing.T) {
	r := bare()
	r.Ins = []api.Ins{ins(api.TReg, -1, 0), ins(api.TReg, -1, 5)}
	r.Snaps[0].Regs[0], r.Snaps[0].Regs[5] = 1, 0
	from := ahead(num(1), num(2), num(3), num(4), num(5), num(6))
	for rounds := range 5 {
		want := ahead(num(1), num(2), num(3), num(4), num(5), num(6))
		want.Steps += 3 * rounds
		if rounds%2 == 1 {
			want.Frames[1].Regs[0], want.Frames[1].Regs[5] = num(6), num(1)
		}
		runs(t, r, from, 5+3*rounds, want)
	}
}

// J3: registers become what they are to at once, also where the trace is left; one value may stand in many.
func TestLeaveBySwap(t *testing.T) {
	r := bare()
	r.Ins = []api.Ins{ins(api.TReg, -1, 0), ins(api.TReg, -1, 1), ins(api.TFalse, 0, 1), ins(api.TEmit, -1, 0)}
	r.Snaps = append([]api.Snap{{PC: 1, Steps: 1, Regs: []int{1, 0, -1, 0, 1, -1}}}, r.Snaps...)
	want := ahead(num(2), num(1), num(3), num(1), num(2), num(6))
	want.Steps, want.Frames[1].PC = 6, 1
	runs(t, r, ahead(num(1), num(2), num(3), num(4), num(5), num(6)), 100, want)
}

// J3: each order leaves by its own snapshot, with the values that were there by then.
func TestOwnSnap(t *testing.T) {
	r := bare()
	for reg := range 6 {
		r.Ins = append(r.Ins, ins(api.TReg, -1, reg), ins(api.TTrue, reg, 2*reg))
		entries := []int{-1, -1, -1, -1, -1, -1}
		entries[5-reg] = 2 * reg
		r.Snaps = slices.Insert(r.Snaps, reg, api.Snap{PC: reg % 5, Steps: reg / 2, Regs: entries})
	}
	for reg := range 6 {
		regs := []api.Value{num(1), num(2), num(3), num(4), num(5), num(6)}
		regs[reg] = no
		want := ahead(regs...)
		want.Steps, want.Frames[1].PC, want.Frames[1].Regs[5-reg] = 5+reg/2, reg%5, no
		runs(t, r, ahead(regs...), 100, want)
	}
}

// J2: rounds are done as long as Steps and those of a round are together at most fuel; with none done the state is as it was.
func TestFuel(t *testing.T) {
	r := bare()
	r.Ins = []api.Ins{ins(api.TReg, -1, 1), val(num(1)), ins(api.TOp+api.OpAdd, 0, 0, 1), ins(api.TEmit, -1, 2)}
	r.Snaps = append([]api.Snap{{PC: 2, Regs: slices.Clone(r.Snaps[0].Regs)}}, r.Snaps...)
	r.Snaps[1].Regs[1] = 2
	for _, fuel := range []int{0, 1, 4, 5, 6, 7, 8, 9, 10, 11, 12, 100, 101, 102, 103, 59999, 60000} {
		want := ahead(none, num(7))
		for want.Steps+3 <= fuel {
			want.Steps += 3
			want.Frames[1].Regs[1].N++
			want.Out = append(want.Out, strconv.FormatInt(want.Frames[1].Regs[1].N, 10))
		}
		runs(t, r, ahead(none, num(7)), fuel, want)
	}
}

// J2: a trace that is left is not begun again, also where it is left to its head, and there is fuel.
func TestLeftForGood(t *testing.T) {
	for steps := range 4 {
		r := bare()
		r.Ins = []api.Ins{val(text("again")), ins(api.TEmit, -1, 0), ins(api.TReg, -1, 3), ins(api.TTrue, 0, 2)}
		r.Snaps = append([]api.Snap{{PC: 2, Steps: steps, Regs: []int{-1, -1, -1, 0, -1, -1}}}, r.Snaps...)
		want := ahead(none, none, none, text("again"))
		want.Steps, want.Out = 5+steps, []string{"x", "again"}
		for _, fuel := range []int{8, 9, 11, 100, 60000} {
			runs(t, r, ahead(), fuel, want)
		}
		runs(t, r, ahead(), 7, ahead())
	}
}

// J2: a trace is left in a later round, with what the rounds ahead of it did.
func TestLeftLater(t *testing.T) {
	r := bare()
	r.Ins = []api.Ins{ins(api.TReg, -1, 0), ins(api.TReg, -1, 1), ins(api.TEmit, -1, 0), ins(api.TOp+api.OpSub, 0, 0, 1), ins(api.TOp+api.OpDiv, 1, 1, 3)}
	r.Snaps = []api.Snap{
		{PC: 2, Regs: []int{-1, -1, -1, -1, -1, -1}},
		{PC: 3, Steps: 2, Regs: []int{3, -1, -1, -1, -1, 0}},
		{PC: 2, Steps: 3, Regs: []int{3, -1, -1, -1, 4, -1}},
	}
	from := ahead(num(6), num(2))
	early := ahead(num(2), num(2), none, none, num(1))
	early.Steps, early.Out = 11, []string{"x", "6", "4"}
	runs(t, r, from, 13, early)
	late := ahead(num(0), num(2), none, none, num(1), num(2))
	late.Steps, late.Frames[1].PC, late.Out = 13, 3, []string{"x", "6", "4", "2"}
	runs(t, r, from, 14, late)
	runs(t, r, from, 1000, late)
}

// J2: the Steps of a round may be as many as there are, and so may those of the state.
func TestLongRound(t *testing.T) {
	for _, row := range []struct{ begin, round, fuel, end int }{
		{0, 60000, 59999, 0}, {0, 60000, 60000, 60000}, {1, 60000, 60000, 1}, {1, 59999, 60000, 60000},
		{60000, 1, 60000, 60000}, {59999, 1, 60000, 60000}, {0, 1, 0, 0}, {0, 1, 60000, 60000}, {20, 7, 3, 20}, {0, 7, 20, 14},
	} {
		r := bare()
		r.Snaps[0].Steps = row.round
		from, want := ahead(yes), ahead(yes)
		from.Out, from.Steps, want.Out, want.Steps = nil, row.begin, nil, row.end
		runs(t, r, from, row.fuel, want)
	}
}

// J2: what is wrong, in this order: a trace or a state that may not be, one that the trace is not for, the fuel.
func TestRefuses(t *testing.T) {
	refuses := func(want api.Errno, p api.Code, r api.Trace, s api.State, fuel int) {
		t.Helper()
		if got, code := trace.Run(p, r, s, fuel); !sample.Same(got, api.State{}) || code != want {
			t.Errorf("Run of %+v from %+v with %d: %+v, %d; want %d", r, s, fuel, got, code, want)
		}
	}
	p := program()
	badTrace, badState, done, failed, other, elsewhere, below := bare(), ahead(), ahead(), ahead(), ahead(), ahead(), ahead()
	badTrace.Snaps[0].Steps = 0
	badState.Steps = -1
	done.End = api.EndDone
	failed.End, failed.Err = api.EndFailed, api.ErrKind
	other.Frames[1].Fun = 2
	elsewhere.Frames[1].PC = 3
	below.Frames[0].PC, below.Frames[1].PC = 2, 4
	deeper := ahead()
	deeper.Frames = append(deeper.Frames, api.Frame{Fun: 0, Regs: make([]api.Value, 4)})
	for _, fuel := range []int{math.MinInt, -1, 0, 5, 8, api.MaxFuel, api.MaxFuel + 1, math.MaxInt} {
		for _, s := range []api.State{ahead(), badState, done, other, {}} {
			refuses(api.ErrForm, p, badTrace, s, fuel)
			refuses(api.ErrForm, p, api.Trace{}, s, fuel)
			refuses(api.ErrForm, api.Code{}, bare(), s, fuel)
		}
		refuses(api.ErrForm, p, bare(), badState, fuel)
		refuses(api.ErrForm, p, bare(), api.State{}, fuel)
		for _, s := range []api.State{done, failed, other, elsewhere, below, deeper} {
			refuses(api.ErrKind, p, bare(), s, fuel)
		}
		if fuel < 0 || fuel > api.MaxFuel {
			refuses(api.ErrRange, p, bare(), ahead(), fuel)
		}
	}
}

// J4: what was done to tables, and what was told, stays so, also where the trace is left behind it.
func TestStays(t *testing.T) {
	r := bare()
	r.Ins = []api.Ins{
		ins(api.TReg, -1, 0), val(text("k")), ins(api.TSet, 0, 0, 1, 1), ins(api.TNew, 0), ins(api.TSet, 0, 3, 1, 3), ins(api.TEmit, -1, 1),
		ins(api.TSet, 0, 0, 3, 3), ins(api.TSet, 0, 0, 1, 0), ins(api.TReg, -1, 1), ins(api.TTrue, 0, 8), ins(api.TEmit, -1, 3),
	}
	r.Snaps = append([]api.Snap{{PC: 2, Regs: slices.Clone(r.Snaps[0].Regs)}}, r.Snaps...)
	want := ahead(tab(1), no)
	want.Tables[1] = api.Table{Keys: []api.Value{num(1), text("k"), num(2), tab(2)}, Vals: []api.Value{text("a"), tab(1), yes, tab(2)}}
	want.Tables = append(want.Tables, api.Table{Keys: []api.Value{text("k")}, Vals: []api.Value{tab(2)}})
	want.Out = append(want.Out, "k")
	runs(t, r, ahead(tab(1), no), 100, want)
	want.Frames[1].Regs[1] = yes
	want.Steps, want.Out = 8, append(want.Out, "table")
	runs(t, r, ahead(tab(1), yes), 8, want)
}

// J3, J4: what an order sees in a table is what those ahead of it in the round put there.
func TestSeesOwn(t *testing.T) {
	r := bare()
	r.Ins = []api.Ins{
		ins(api.TNew, 0), val(num(1)), ins(api.TLen, 0, 0), ins(api.TSet, 0, 0, 1, 0), ins(api.TLen, 0, 0), ins(api.TGet, 0, 0, 1),
		val(none), ins(api.TNext, 0, 0, 6), ins(api.TSet, 0, 0, 1, 6), ins(api.TGet, 0, 0, 1),
	}
	r.Snaps = append([]api.Snap{{PC: 2, Regs: slices.Clone(r.Snaps[0].Regs)}}, r.Snaps...)
	r.Snaps[1].Regs = []int{2, 4, 5, 7, 9, 0}
	want := ahead(num(0), num(1), tab(2), num(1), none, tab(2))
	want.Steps, want.Tables = 8, append(want.Tables, api.Table{})
	runs(t, r, ahead(yes, yes, yes, yes, yes, yes), 10, want)
}

// squares is a program that sets the squares of the numbers from 1 on in a table, and tells them; its head is the order 4.
func squares() api.Code {
	return api.Code{Funs: []api.Fn{{Regs: 6, Consts: []api.Value{num(0), num(120), num(1)}, Code: []api.Instr{
		order(api.CConst, 0, 0), order(api.CConst, 1, 1), order(api.CConst, 2, 2), order(api.CNew, 4),
		order(api.COp+api.OpLess, 3, 0, 1), order(api.CTest, 3, 11), order(api.COp+api.OpAdd, 0, 0, 2), order(api.COp+api.OpMul, 5, 0, 0),
		order(api.CSet, 4, 0, 5), order(api.CEmit, 5), order(api.CLoop, 4), order(api.CReturn, 4),
	}}}}
}

// square is a round of squares.
func square() api.Trace {
	return api.Trace{Head: 4, Ins: []api.Ins{
		ins(api.TReg, -1, 0), ins(api.TReg, -1, 1), ins(api.TOp+api.OpLess, 0, 0, 1), ins(api.TTrue, 1, 2), ins(api.TReg, -1, 2),
		ins(api.TOp+api.OpAdd, 2, 0, 4), ins(api.TOp+api.OpMul, 3, 5, 5), ins(api.TReg, -1, 4), ins(api.TSet, 4, 7, 5, 6), ins(api.TEmit, -1, 6),
	}, Snaps: []api.Snap{
		{PC: 4, Regs: []int{-1, -1, -1, -1, -1, -1}},
		{PC: 5, Steps: 1, Regs: []int{-1, -1, -1, 2, -1, -1}},
		{PC: 6, Steps: 2, Regs: []int{-1, -1, -1, 2, -1, -1}},
		{PC: 7, Steps: 3, Regs: []int{5, -1, -1, 2, -1, -1}},
		{PC: 8, Steps: 4, Regs: []int{5, -1, -1, 2, -1, 6}},
		{PC: 4, Steps: 7, Regs: []int{5, -1, -1, 2, -1, 6}},
	}}
}

// likeMachine holds Run against what the machine does in as many steps.
func likeMachine(t *testing.T, p api.Code, r api.Trace, s api.State, fuel int) api.State {
	t.Helper()
	got, code := trace.Run(p, r, s, fuel)
	want, other := machine.Go(p, s, got.Steps)
	if code != api.OK || other != api.OK || !sample.Same(got, want) {
		t.Fatalf("Run from %+v with %d: %+v, %d; the machine: %+v, %d", s, fuel, got, code, want, other)
	}
	return got
}

// J2, J3, J4: a round of a loop does what the machine does, with each fuel, and from states by a fixed rule.
func TestLikeMachine(t *testing.T) {
	p, r := squares(), square()
	begin, _ := machine.Begin(p)
	head, _ := machine.Go(p, begin, 4)
	for fuel := range 800 {
		got := likeMachine(t, p, r, head, fuel)
		if want := min(4+max(0, fuel-4)/7*7, 4+700+4); fuel < 708 && got.Steps != want {
			t.Fatalf("with %d: %d steps", fuel, got.Steps)
		}
	}
	ends := map[int]int{}
	for number := range 3000 {
		s := sample.StateAt(p, 0, 4, number)
		got := likeMachine(t, p, r, s, s.Steps+number%40)
		ends[got.Frames[len(got.Frames)-1].PC]++
	}
	if len(ends) != 4 {
		t.Errorf("too few ends: %v", ends)
	}
}
