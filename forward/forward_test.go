package forward_test

import (
	"math"
	"slices"
	"testing"

	"packtrail/api"
	"packtrail/forward"
	"packtrail/sample"
	"packtrail/trace"
)

var (
	num  = sample.Num
	text = sample.Text
	tab  = sample.Tab
	fun  = sample.Fun
	yes  = sample.Bool(true)
	no   = sample.Bool(false)
	none api.Value
)

// ins is an order that leaves by a snapshot, with some of its fields, X first.
func ins(op, snap int, fields ...int) api.Ins {
	all := append(slices.Clone(fields), 0, 0, 0)
	return api.Ins{Op: op, X: all[0], Y: all[1], Z: all[2], Snap: snap}
}

// val is a TVal.
func val(v api.Value) api.Ins { return api.Ins{Op: api.TVal, V: v, Snap: -1} }

// reg is a TReg.
func reg(n int) api.Ins { return ins(api.TReg, -1, n) }

// emit is a TEmit.
func emit(n int) api.Ins { return ins(api.TEmit, -1, n) }

// get is a TGet that leaves behind two steps.
func get(x, y int) api.Ins { return ins(api.TGet, 1, x, y) }

// set is a TSet that leaves behind two steps.
func set(x, y, z int) api.Ins { return ins(api.TSet, 1, x, y, z) }

// program has two functions, of which main, the second one, has six registers and five orders.
func program() api.Code {
	do := api.Instr{Op: api.CNew}
	return api.Code{Main: 1, Funs: []api.Fn{
		{Params: 1, Regs: 2, Code: []api.Instr{{Op: api.CReturn}}},
		{Regs: 6, Code: []api.Instr{do, do, do, do, {Op: api.CLoop, A: 2}}},
	}}
}

// regs are the entries of a snapshot, with those of the registers from 0 on, and -1 behind them.
func regs(entries ...int) []int {
	return append(slices.Clone(entries), slices.Repeat([]int{-1}, 6-len(entries))...)
}

// round is a trace of program's main with these orders and three steps, with these entries of its end. It is left by the snapshot 0 to where the round began, by 1 to the order 4, behind two steps.
func round(end []int, orders ...api.Ins) api.Trace {
	return api.Trace{Fun: 1, Head: 2, Ins: orders, Snaps: []api.Snap{
		{PC: 2, Regs: regs()}, {PC: 4, Steps: 2, Regs: regs()}, {PC: 2, Steps: 3, Regs: end},
	}}
}

// ahead is a state at the head of round, with these registers, and nil behind them; below it is another frame of main's. The table 2 has as many keys as there may be.
func ahead(with ...api.Value) api.State {
	s := api.State{
		Frames: []api.Frame{
			{Fun: 1, PC: 3, Regs: []api.Value{num(-1), num(-2), num(-3), num(-4), num(-5), num(-6)}},
			{Fun: 1, PC: 2, Dest: 4, Regs: append(slices.Clone(with), make([]api.Value, 6-len(with))...)},
		},
		Tables: []api.Table{{}, {Keys: []api.Value{num(1), text("k"), num(2), tab(0)}, Vals: []api.Value{text("a"), tab(0), yes, tab(1)}}, {}},
		Out:    []string{"x"},
		Steps:  5,
	}
	for i := range api.MaxKeys {
		s.Tables[2].Keys = append(s.Tables[2].Keys, num(int64(i+1)))
		s.Tables[2].Vals = append(s.Tables[2].Vals, num(int64(-i)))
	}
	return s
}

// states are some at the head of round: in most of them the first registers are tables, the next ones keys.
func states() []api.State {
	return []api.State{
		ahead(), ahead(tab(1), tab(1), num(1), num(1), num(7), text("z")), ahead(tab(1), tab(1), num(1), text("k"), none, tab(0)),
		ahead(tab(0), tab(1), num(1), num(1), fun(1), num(7)), ahead(tab(1), tab(0), text("k"), tab(0), tab(1), none),
		ahead(tab(1), tab(1), tab(0), tab(0), none, yes), ahead(tab(2), tab(2), num(1), num(0), num(5), none), ahead(tab(2), tab(2), num(0), num(1), none, num(5)),
		ahead(tab(1), tab(1), none, none, num(1), num(2)), ahead(num(1), tab(1), num(2), num(2), no, text("")), ahead(tab(0), text("a"), num(1), no, no, yes),
	}
}

// becomes asks Of at a trace of program that may be; it holds the answer against N1, N2 and N3, and against the orders that are wanted.
func becomes(t *testing.T, r api.Trace, want ...api.Ins) api.Trace {
	t.Helper()
	if !trace.May(program(), r) {
		t.Fatalf("may not be: %+v", r)
	}
	u := holds(t, program(), r)
	if !slices.Equal(u.Ins, want) {
		t.Errorf("%+v:\n%+v;\nwant %+v", r.Ins, u.Ins, want)
	}
	for _, s := range states() {
		for fuel := range 16 {
			nobodyTells(t, program(), r, u, s, fuel)
		}
	}
	return u
}

// stays asks Of at a trace in which nothing is known of what is got.
func stays(t *testing.T, r api.Trace) {
	t.Helper()
	if u := becomes(t, r, r.Ins...); !sample.SameTrace(u, r) {
		t.Errorf("%+v: %+v", r, u)
	}
}

// told is what a trace of program tells in one round from a state.
func told(r api.Trace, s api.State) []string {
	got, _ := trace.Run(program(), r, s, s.Steps+3)
	return got.Out[len(s.Out):]
}

// N3: what was set is not got, but handed on.
func TestSetAndGet(t *testing.T) {
	for snap := range 2 {
		r := round(regs(-1, -1, 4), reg(0), reg(2), reg(4), set(0, 1, 2), ins(api.TGet, snap, 0, 1), emit(4))
		u := becomes(t, r, reg(0), reg(2), reg(4), set(0, 1, 2), emit(2))
		if end := u.Snaps[2].Regs; !slices.Equal(end, regs(-1, -1, 2)) {
			t.Errorf("the end is %v", end)
		}
	}
	becomes(t, round(regs(4), reg(0), reg(2), reg(5), set(0, 1, 2), get(0, 1), get(0, 1), emit(5), get(0, 1)), reg(0), reg(2), reg(5), set(0, 1, 2), emit(2))
}

// N3: what was got is not got again.
func TestGetAndGet(t *testing.T) {
	for snap := range 2 {
		r := round(regs(3, 2), reg(0), reg(2), ins(api.TGet, snap, 0, 1), ins(api.TGet, 1-snap, 0, 1), emit(3), get(0, 1), emit(5))
		u := becomes(t, r, reg(0), reg(2), ins(api.TGet, snap, 0, 1), emit(2), emit(2))
		if end := u.Snaps[2].Regs; !slices.Equal(end, regs(2, 2)) {
			t.Errorf("the end is %v", end)
		}
	}
}

// N2: a value of each kind is handed on as it is; of nil, too, which takes away what stood there.
func TestEachValue(t *testing.T) {
	for _, v := range []api.Value{none, no, yes, num(0), num(math.MinInt64), text(""), text("a"), text(sample.Longest()), fun(0), fun(1)} {
		for _, k := range []api.Value{no, num(1), num(2), num(-1), text("k"), text(""), text(sample.Longest()), fun(1)} {
			r := round(regs(-1, -1, 4), reg(0), val(k), val(v), set(0, 1, 2), get(0, 1), emit(4), get(0, 1), ins(api.TOp+api.OpSame, 1, 4, 6), emit(7))
			u := becomes(t, r, reg(0), val(k), val(v), set(0, 1, 2), emit(2), ins(api.TOp+api.OpSame, 1, 2, 2), emit(5))
			if out := told(u, ahead(tab(1))); len(out) != 2 || out[1] != "true" {
				t.Errorf("%+v under %+v: %q", v, k, out)
			}
		}
	}
}

// N2: a table that is its own key, its own value, or both.
func TestItself(t *testing.T) {
	becomes(t, round(regs(2), reg(0), set(0, 0, 0), get(0, 0), emit(2)), reg(0), set(0, 0, 0), emit(0))
	becomes(t, round(regs(3), reg(0), reg(2), set(0, 1, 0), get(0, 1), get(3, 1), get(4, 1), emit(5)), reg(0), reg(2), set(0, 1, 0), emit(0))
	becomes(t, round(regs(3), reg(0), reg(2), set(0, 0, 1), get(0, 0), emit(3)), reg(0), reg(2), set(0, 0, 1), emit(1))
}

// N2: a TSet may change what stands at any other place, whichever orders have the table and the key.
func TestSetElsewhere(t *testing.T) {
	for _, other := range []api.Ins{set(0, 2, 4), set(1, 2, 4), set(0, 3, 4), set(1, 3, 4), set(1, 2, 5), set(2, 0, 4), set(0, 0, 2)} {
		stays(t, round(regs(), reg(0), reg(1), reg(2), reg(3), reg(4), reg(5), get(0, 2), other, set(0, 3, 5), get(0, 2), emit(6), emit(9)))
		if other.X == 0 && other.Y == 2 {
			continue
		}
		stays(t, round(regs(), reg(0), reg(1), reg(2), reg(3), reg(4), reg(5), get(0, 2), other, get(0, 2), emit(6), emit(8)))
		stays(t, round(regs(), reg(0), reg(1), reg(2), reg(3), reg(4), reg(5), set(0, 2, 5), other, get(0, 2), emit(8)))
	}
	r := round(regs(), reg(0), reg(1), reg(2), reg(3), reg(4), reg(5), set(0, 2, 4), set(1, 3, 5), get(0, 2), emit(8))
	if out := told(forward.Of(program(), r), ahead(tab(1), tab(1), num(1), num(1), num(7), text("z"))); !slices.Equal(out, []string{"z"}) {
		t.Errorf("not what stands there: %q", out)
	}
}

// N3: behind a TSet what it set is known, and what is got then, but nothing that was known ahead of it.
func TestAfterSet(t *testing.T) {
	known := []api.Ins{reg(0), reg(2), reg(4), reg(5)}
	becomes(t, round(regs(), append(slices.Clone(known), get(0, 1), set(0, 1, 2), get(0, 1), emit(4), emit(6))...),
		append(slices.Clone(known), get(0, 1), set(0, 1, 2), emit(4), emit(2))...)
	becomes(t, round(regs(), append(slices.Clone(known), set(0, 1, 2), get(0, 1), emit(5), set(0, 1, 3), get(0, 1), emit(8))...),
		append(slices.Clone(known), set(0, 1, 2), emit(2), set(0, 1, 3), emit(3))...)
	becomes(t, round(regs(), append(slices.Clone(known), set(0, 1, 2), set(0, 2, 3), get(0, 1), get(0, 1), emit(7), get(0, 2), emit(9))...),
		append(slices.Clone(known), set(0, 1, 2), set(0, 2, 3), get(0, 1), emit(6), emit(3))...)
	// a place that was got ahead of a TSet elsewhere, and again behind it, is known from the second on
	becomes(t, round(regs(), append(slices.Clone(known), get(0, 1), set(0, 2, 3), get(0, 1), get(0, 1), emit(4), emit(6), emit(7))...),
		append(slices.Clone(known), get(0, 1), set(0, 2, 3), get(0, 1), emit(4), emit(6), emit(6))...)
}

// N3: many places may be known at a time.
func TestManyPlaces(t *testing.T) {
	orders := []api.Ins{reg(0), reg(1), reg(2), reg(3), reg(4)}
	want := slices.Clone(orders)
	var places [][2]int
	for x := range 2 {
		for y := range 5 {
			places = append(places, [2]int{x, y})
		}
	}
	want = append(want, set(1, 4, 2))
	orders = append(orders, set(1, 4, 2))
	now := map[[2]int]int{{1, 4}: 2}
	for _, at := range places {
		orders = append(orders, get(at[0], at[1]))
		if now[at] == 0 {
			now[at] = len(want)
			want = append(want, get(at[0], at[1]))
		}
	}
	for _, at := range slices.Backward(places) {
		orders = append(orders, get(at[0], at[1]), emit(len(orders)))
		want = append(want, emit(now[at]))
	}
	becomes(t, round(regs(len(orders)-2), orders...), want...)
}

// N2: X and Y are not taken for each other, and neither alone is a place.
func TestNotTheSamePlace(t *testing.T) {
	stays(t, round(regs(), reg(0), reg(1), get(0, 1), get(1, 0), get(0, 0), get(1, 1), emit(2), emit(3), emit(4), emit(5)))
	stays(t, round(regs(), reg(0), reg(1), reg(4), set(0, 1, 2), get(1, 0), get(0, 0), get(0, 2), get(2, 1), emit(4)))
	// other orders that have the same are another place: they are told apart by their numbers alone
	stays(t, round(regs(), reg(0), reg(0), val(num(1)), val(num(1)), get(0, 2), get(1, 2), get(0, 3), get(1, 3), emit(4), emit(5), emit(6), emit(7)))
	stays(t, round(regs(), reg(0), val(num(1)), val(num(1)), set(0, 1, 2), get(0, 2), emit(4)))
	// 1 and 11 with 12 and 2 are other places than 11 and 1 with 2 and 12
	orders := slices.Repeat([]api.Ins{reg(0), reg(2)}, 8)
	stays(t, round(regs(), append(orders, get(1, 12), get(11, 2), get(1, 2), get(11, 12), get(2, 1), get(12, 11), get(2, 11), get(12, 1))...))
}

// N2: what is no TGet stays, however often it is there; TSet, TLen and TNext among it.
func TestOthersStay(t *testing.T) {
	for _, o := range []api.Ins{ins(api.TNew, 1), ins(api.TLen, 1, 0), ins(api.TNext, 1, 0, 1), ins(api.TOp+api.OpSame, 1, 0, 1), ins(api.TOp+api.OpNot, 1, 0), reg(0), val(num(1))} {
		stays(t, round(regs(-1, -1, 2, 3), reg(0), reg(2), o, o, emit(2), emit(3), o))
		becomes(t, round(regs(-1, -1, -1, 3), reg(0), reg(2), get(0, 1), o, get(0, 1), o, emit(4)), reg(0), reg(2), get(0, 1), o, o, emit(2))
		becomes(t, round(regs(-1, -1, -1, -1, 4), reg(0), reg(2), reg(4), set(0, 1, 2), o, get(0, 1), o, emit(5)), reg(0), reg(2), reg(4), set(0, 1, 2), o, o, emit(2))
	}
	for _, o := range []api.Ins{emit(0), set(0, 1, 0), ins(api.TTrue, 1, 0), ins(api.TFalse, 1, 1), ins(api.TKind, 1, 0, api.VTable)} {
		stays(t, round(regs(), reg(0), reg(2), o, o, o))
	}
	becomes(t, round(regs(4), reg(0), reg(2), get(0, 1), ins(api.TKind, 1, 2, api.VInt), get(0, 1), ins(api.TTrue, 0, 4), emit(4)),
		reg(0), reg(2), get(0, 1), ins(api.TKind, 1, 2, api.VInt), ins(api.TTrue, 0, 2), emit(2))
	// what was got is set again: under nil that can't be done, so the TSet is no less needed than any other
	stays(t, round(regs(), reg(0), reg(2), get(0, 1), set(0, 1, 2), emit(2)))
	// what is under a table and a key is asked by TNext, too, and is no place of a TGet
	stays(t, round(regs(), reg(0), reg(2), ins(api.TNext, 1, 0, 1), get(0, 1), emit(2), emit(3)))
	stays(t, round(regs(), reg(0), reg(2), get(0, 1), ins(api.TNext, 1, 0, 1), emit(2), emit(3)))
	stays(t, round(regs(), reg(0), reg(2), ins(api.TOp+api.OpSame, 1, 0, 1), get(0, 1), ins(api.TOp+api.OpSame, 1, 0, 1), emit(2), emit(3)))
}

// N3: orders that ask for what was handed on have the same places.
func TestOnwards(t *testing.T) {
	// two ways down through three tables
	r := round(regs(4, 7), reg(0), reg(2), get(0, 1), get(2, 1), get(3, 1), get(0, 1), get(5, 1), get(6, 1), emit(7))
	u := becomes(t, r, reg(0), reg(2), get(0, 1), get(2, 1), get(3, 1), emit(4))
	if end := u.Snaps[2].Regs; !slices.Equal(end, regs(4, 4)) {
		t.Errorf("the end is %v", end)
	}
	// a table that was set is the one that is got, and so is what stands in it
	becomes(t, round(regs(7), reg(0), reg(1), reg(2), get(1, 2), set(0, 2, 1), get(0, 2), get(5, 2), get(1, 2), emit(6), emit(7)),
		reg(0), reg(1), reg(2), get(1, 2), set(0, 2, 1), get(1, 2), emit(5), emit(5))
	// a key, or a value that is set, that was handed on
	becomes(t, round(regs(), reg(0), reg(2), reg(4), set(0, 1, 2), get(0, 1), set(0, 4, 4), get(0, 2), get(0, 4), emit(6), emit(7)),
		reg(0), reg(2), reg(4), set(0, 1, 2), set(0, 2, 2), emit(2), emit(2))
	// by the numbers they came with the last two are one place, by what they are of they are not
	becomes(t, round(regs(), reg(0), reg(2), get(0, 1), get(0, 1), reg(3), reg(4), get(0, 4), get(0, 3), emit(7)),
		reg(0), reg(2), get(0, 1), reg(3), reg(4), get(0, 3), get(0, 2), emit(6))
}

// N2: where the first one leaves the trace, it does so by its own snapshot, and the others are not come to.
func TestLeaving(t *testing.T) {
	for _, first := range []api.Ins{get(0, 1), set(0, 1, 1)} {
		r := round(regs(), reg(0), reg(1), emit(0), first, ins(api.TGet, 0, 0, 1), emit(0))
		for _, x := range []api.Value{num(1), none, text("a"), fun(0)} {
			got, _ := trace.Run(program(), holds(t, program(), r), ahead(x, num(1)), 20)
			if f := got.Frames[1]; f.PC != 4 || got.Steps != 7 || len(got.Out) != 2 {
				t.Errorf("not left by the first: %+v", got)
			}
		}
	}
	// no key may be nil: it can't be set, but it can be asked for
	r := round(regs(), reg(0), reg(1), reg(2), get(0, 1), ins(api.TGet, 0, 0, 1), emit(4), set(0, 1, 2), get(0, 1), emit(7))
	u := becomes(t, r, reg(0), reg(1), reg(2), get(0, 1), emit(3), set(0, 1, 2), emit(2))
	if out := told(u, ahead(tab(1), none, num(3))); !slices.Equal(out, []string{"nil"}) {
		t.Errorf("told %q", out)
	}
	// a table that is full takes no key more, but takes another value under one that it has
	for key, want := range map[int64]int{0: 0, 1: 1, api.MaxKeys: 1, api.MaxKeys + 1: 0} {
		r := round(regs(), reg(0), reg(1), reg(2), set(0, 1, 2), get(0, 1), emit(4))
		u := becomes(t, r, reg(0), reg(1), reg(2), set(0, 1, 2), emit(2))
		if out := told(u, ahead(tab(2), num(key), text("new"))); len(out) != want {
			t.Errorf("under %d: %q", key, out)
		}
	}
}

// N2: a round begins with nothing known: what the last one set, or somebody else between two runs, counts.
func TestNextRound(t *testing.T) {
	r := round(regs(-1, -1, -1, -1, 8), reg(0), reg(2), reg(4), val(num(1)), get(0, 1), emit(4), get(0, 1), ins(api.TOp+api.OpAdd, 1, 4, 3), ins(api.TOp+api.OpAdd, 1, 2, 3), set(0, 1, 7), get(0, 1), emit(10))
	u := becomes(t, r, reg(0), reg(2), reg(4), val(num(1)), get(0, 1), emit(4), ins(api.TOp+api.OpAdd, 1, 4, 3), ins(api.TOp+api.OpAdd, 1, 2, 3), set(0, 1, 6), emit(6))
	s := ahead(tab(1), none, text("n"), none, num(1))
	s.Tables[1].Keys, s.Tables[1].Vals = append(s.Tables[1].Keys, text("n")), append(s.Tables[1].Vals, num(5))
	got, _ := trace.Run(program(), u, s, 5+3*3)
	if !slices.Equal(got.Out, []string{"x", "5", "6", "6", "7", "7", "8"}) || got.Steps != 14 {
		t.Errorf("told %q, %d steps", got.Out, got.Steps)
	}
}

// N2: each order leaves by its own snapshot still, with what registers have by then; what was got by then, too.
func TestOwnSnap(t *testing.T) {
	r := api.Trace{Fun: 1, Head: 2, Ins: []api.Ins{reg(0), val(num(1)), ins(api.TGet, 0, 0, 1)}, Snaps: []api.Snap{{PC: 1, Regs: regs()}}}
	want := slices.Clone(r.Ins)
	for i := 1; i < 6; i++ {
		got := len(r.Ins)
		r.Ins = append(r.Ins, ins(api.TGet, i-1, 0, 1), reg(i), ins(api.TTrue, i, got+1))
		want = append(want, reg(i), ins(api.TTrue, i, len(want)))
		entries := regs()
		entries[i], entries[(i+1)%6] = got, got+1
		r.Snaps = append(r.Snaps, api.Snap{PC: i % 5, Steps: i, Regs: entries})
	}
	r.Snaps = append(r.Snaps, api.Snap{PC: 2, Steps: 6, Regs: regs(-1, 3, 6, 9, 12, 15)})
	u := becomes(t, r, want...)
	for i := 1; i < 6; i++ {
		with := []api.Value{tab(1), num(12), num(13), num(14), num(15), num(16)}
		with[i] = no
		for fuel := range 40 {
			nobodyTells(t, program(), r, u, ahead(with...), fuel)
		}
		after := ahead(with...)
		after.Steps, after.Frames[1].PC = 5+i, i%5
		after.Frames[1].Regs[i], after.Frames[1].Regs[(i+1)%6] = text("a"), no
		if got, _ := trace.Run(program(), u, ahead(with...), 11); !sample.Same(got, after) {
			t.Errorf("left by %d: %+v", i, got)
		}
	}
}

// N1: there may be as many orders and snapshots as there are at most, all of which get the same, or none.
func TestMany(t *testing.T) {
	for _, many := range []int{2, 3, 4, 399, api.MaxIns} {
		alike, apart := round(regs(-1, -1, many-1), reg(0), reg(2)), round(regs(-1, -1, many-1), reg(0), reg(2))
		sets := round(regs(), reg(0), reg(2))
		want := slices.Clone(sets.Ins)
		for i := 2; i < many; i++ {
			alike.Ins = append(alike.Ins, get(0, 1))
			apart.Ins = append(apart.Ins, get(i-1, i-2))
			if i%2 == 0 {
				sets.Ins = append(sets.Ins, set(0, 1, i/2%2))
				want = append(want, set(0, 1, i/2%2))
			} else {
				sets.Ins = append(sets.Ins, get(0, 1))
			}
		}
		stays(t, apart)
		becomes(t, sets, want...)
		if many > 2 {
			becomes(t, alike, reg(0), reg(2), get(0, 1))
		}
	}
	for _, many := range []int{2, 3, 399, api.MaxSnaps} {
		r := round(regs(-1, -1, 3), reg(0), reg(2), ins(api.TGet, 0, 0, 1), ins(api.TGet, many-2, 0, 1))
		r.Snaps = append(slices.Repeat(r.Snaps[:1], many-1), r.Snaps[2])
		r.Snaps[many-1].Steps = many
		becomes(t, r, reg(0), reg(2), ins(api.TGet, 0, 0, 1))
	}
	stays(t, round(regs()))
	r := round(regs(1), reg(3), reg(3))
	r.Snaps = r.Snaps[2:]
	stays(t, r)
}

// N1: the Steps of a round may be as many as there are.
func TestLongRound(t *testing.T) {
	for _, steps := range []int{1, 2, 59994, 59995, 59996, 60000} {
		r := round(regs(-1, -1, -1, 3), reg(0), reg(2), get(0, 1), get(0, 1))
		r.Snaps[1].Steps, r.Snaps[2].Steps = min(2, steps), steps
		u := becomes(t, r, reg(0), reg(2), get(0, 1))
		for _, fuel := range []int{0, steps + 4, steps + 5, steps + 6, 2*steps + 5, 60000} {
			nobodyTells(t, program(), r, u, ahead(tab(1), none, num(1)), min(fuel, api.MaxFuel))
		}
	}
}

// N1: the zero trace, if the trace, or the program, may not be.
func TestWrong(t *testing.T) {
	r := func() api.Trace {
		return round(regs(5), val(num(1)), reg(1), set(1, 0, 0), get(1, 0), ins(api.TTrue, 1, 3), get(1, 3), get(1, 0))
	}
	if isZero(holds(t, program(), r())) {
		t.Fatal("it may be")
	}
	wrong := program()
	wrong.Main = 0
	short := program()
	short.Funs[1].Regs = 5
	for _, p := range []api.Code{{}, wrong, short, {Funs: program().Funs[:1]}} {
		if u := forward.Of(p, r()); !isZero(u) {
			t.Errorf("of %+v: %+v", p, u)
		}
	}
	for i, change := range []func(r *api.Trace){
		func(r *api.Trace) { *r = api.Trace{} },
		func(r *api.Trace) { r.Fun = 2 },
		func(r *api.Trace) { r.Fun = -1 },
		func(r *api.Trace) { r.Fun = math.MaxInt },
		func(r *api.Trace) { r.Fun = 0 },
		func(r *api.Trace) { r.Head = 3 },
		func(r *api.Trace) { r.Head = math.MinInt },
		func(r *api.Trace) { r.Snaps = nil },
		func(r *api.Trace) { r.Snaps = r.Snaps[2:] },
		func(r *api.Trace) { r.Snaps = slices.Repeat(r.Snaps, 134) },
		func(r *api.Trace) { r.Snaps[2].Steps = 0 },
		func(r *api.Trace) { r.Snaps[2].Steps = 60001 },
		func(r *api.Trace) { r.Snaps[0].Steps = 4 },
		func(r *api.Trace) { r.Snaps[0].Regs = r.Snaps[0].Regs[1:] },
		func(r *api.Trace) { r.Snaps[1].Regs[0] = 2 },
		func(r *api.Trace) { r.Snaps[1].Regs[0] = 3 },
		func(r *api.Trace) { r.Snaps[2].Regs[0] = 2 },
		func(r *api.Trace) { r.Snaps[2].Regs[0] = 7 },
		func(r *api.Trace) { r.Snaps[2].Regs[0] = -2 },
		func(r *api.Trace) { r.Ins = append(r.Ins, slices.Repeat(r.Ins[3:4], 394)...) },
		func(r *api.Trace) { r.Ins[0].V = tab(0) },
		func(r *api.Trace) { r.Ins[0].V = fun(2) },
		func(r *api.Trace) { r.Ins[0].V = text(sample.Longest() + "m") },
		func(r *api.Trace) { r.Ins[0].Snap = 0 },
		func(r *api.Trace) { r.Ins[1].X = 6 },
		func(r *api.Trace) { r.Ins[2].X = 2 },
		func(r *api.Trace) { r.Ins[2].Y = -1 },
		func(r *api.Trace) { r.Ins[2].Z = 3 },
		func(r *api.Trace) { r.Ins[2].Snap = -1 },
		func(r *api.Trace) { r.Ins[2].Snap = 2 },
		func(r *api.Trace) { r.Ins[2].V = num(1) },
		func(r *api.Trace) { r.Ins[3].X = 2 },
		func(r *api.Trace) { r.Ins[3].X = math.MaxInt },
		func(r *api.Trace) { r.Ins[3].Y = 3 },
		func(r *api.Trace) { r.Ins[3].Z = 1 },
		func(r *api.Trace) { r.Ins[3].Snap = 3 },
		func(r *api.Trace) { r.Ins[6].Snap = -1 },
		func(r *api.Trace) { r.Ins[6].Snap = 2 },
		func(r *api.Trace) { r.Ins[6].Z = 1 },
		func(r *api.Trace) { r.Ins[6].V = num(1) },
		func(r *api.Trace) { r.Ins[6].Y = 4 },
		func(r *api.Trace) { r.Ins[6].Op = api.TOp },
		func(r *api.Trace) { r.Ins[6].Op = api.TOp + api.OpNeg + 1 },
		func(r *api.Trace) { r.Ins[6].Op = math.MinInt },
	} {
		one := r()
		change(&one)
		if u := forward.Of(program(), one); !isZero(u) {
			t.Errorf("%d: %+v: %+v", i, one, u)
		}
	}
}

// N1 to N3: what is bettered already stays as it is.
func TestTwice(t *testing.T) {
	r := round(regs(2, 4), reg(0), reg(2), get(0, 1), get(0, 1), get(3, 1), set(3, 1, 4), get(2, 1), get(6, 1), emit(7))
	stays(t, forward.Of(program(), r))
}
