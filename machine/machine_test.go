package machine_test

import (
	"math"
	"slices"
	"strings"
	"testing"

	"packtrail/api"
	"packtrail/code"
	"packtrail/machine"
	"packtrail/sample"
)

var (
	num  = sample.Num
	text = sample.Text
	tab  = sample.Tab
	fun  = sample.Fun
	yes  = sample.Bool(true)
	no   = sample.Bool(false)
	none api.Value
	same = sample.Same
)

// order is one with some of its fields, A first.
func order(op int, fields ...int) api.Instr {
	all := append(fields, 0, 0, 0)
	return api.Instr{Op: op, A: all[0], B: all[1], C: all[2]}
}

// program has three functions: g with two parameters and four registers, main with six registers and three constants, h with neither parameters nor constants. main's order 1 is the one that is tried.
func program(tried api.Instr) api.Code {
	return api.Code{Main: 1, Funs: []api.Fn{
		{Params: 2, Regs: 4, Code: []api.Instr{order(api.CNew, 3), order(api.CReturn, 0)}},
		{Regs: 6, Consts: []api.Value{num(70), text("k"), fun(2)}, Code: []api.Instr{order(api.CNew, 0), tried, order(api.CNew, 0), order(api.CNew, 0), order(api.CReturn, 0)}},
		{Regs: 1, Code: []api.Instr{order(api.CReturn, 0)}},
	}}
}

// ahead is main's state ahead of the order that is tried, with these registers, and nil behind them.
func ahead(regs ...api.Value) api.State {
	return api.State{
		Frames: []api.Frame{{Fun: 1, PC: 1, Regs: append(regs, make([]api.Value, 6-len(regs))...)}},
		Tables: []api.Table{{}, {Keys: []api.Value{num(1), text("k"), num(2)}, Vals: []api.Value{text("a"), tab(0), yes}}},
		Out:    []string{"x"},
		Steps:  5,
	}
}

// goes does the order in ahead's state, and holds what comes of it against what is wanted.
func goes(t *testing.T, tried api.Instr, from, want api.State) {
	t.Helper()
	p := program(tried)
	if !machine.May(p, from) || !machine.May(p, want) {
		t.Fatalf("%v: no states that may be: %+v, %+v", tried, from, want)
	}
	got, code := machine.Go(p, from, from.Steps+1)
	if !same(got, want) || code != api.OK {
		t.Errorf("%v: %+v, %d; want %+v", tried, got, code, want)
	}
}

// becomes does an order behind which the next one comes, with such registers; nothing but register 0 changes.
func becomes(t *testing.T, tried api.Instr, want api.Value, regs ...api.Value) {
	t.Helper()
	after := ahead(slices.Clone(regs)...)
	after.Steps, after.Frames[0].PC, after.Frames[0].Regs[0] = 6, 2, want
	goes(t, tried, ahead(regs...), after)
}

// fails does an order that can't be done: the state is as ahead, but for the step.
func fails(t *testing.T, tried api.Instr, code api.Errno, regs ...api.Value) {
	t.Helper()
	after := ahead(slices.Clone(regs)...)
	after.Steps, after.End, after.Err = 6, api.EndFailed, code
	goes(t, tried, ahead(regs...), after)
}

// H4: CMove, CConst.
func TestMoves(t *testing.T) {
	for _, v := range []api.Value{none, yes, no, num(-3), text("z"), tab(1), fun(2)} {
		becomes(t, order(api.CMove, 0, 5), v, num(9), none, none, none, none, v)
		becomes(t, order(api.CMove, 0, 0), v, v)
	}
	becomes(t, order(api.CConst, 0, 0), num(70), num(1))
	becomes(t, order(api.CConst, 0, 1), text("k"))
	becomes(t, order(api.CConst, 0, 2), fun(2))
}

// H4: COp and an operation, from OpAdd to OpMost of two registers; what Op answers is told, errors too.
func TestOperations(t *testing.T) {
	two := func(op int) api.Instr { return order(api.COp+op, 0, 2, 4) }
	for _, row := range []struct {
		op         int
		a, b, want api.Value
	}{
		{api.OpAdd, num(7), num(3), num(10)},
		{api.OpAdd, num(math.MaxInt64), num(1), num(math.MinInt64)},
		{api.OpSub, num(7), num(3), num(4)},
		{api.OpMul, num(7), num(3), num(21)},
		{api.OpDiv, num(-7), num(2), num(-4)},
		{api.OpMod, num(-7), num(2), num(1)},
		{api.OpCat, text("a"), num(3), text("a3")},
		{api.OpSame, tab(0), tab(0), yes},
		{api.OpSame, tab(0), tab(1), no},
		{api.OpSame, none, none, yes},
		{api.OpLess, num(2), num(3), yes},
		{api.OpLess, num(3), num(3), no},
		{api.OpLess, text("a"), text("ab"), yes},
		{api.OpMost, num(3), num(3), yes},
		{api.OpMost, num(4), num(3), no},
	} {
		becomes(t, two(row.op), row.want, num(1), num(1), row.a, num(1), row.b)
	}
	for op := api.OpAdd; op <= api.OpMost; op++ {
		if op != api.OpSame {
			fails(t, two(op), api.ErrKind, num(1), num(1), num(1), num(1), none)
			fails(t, two(op), api.ErrKind, num(1), num(1), fun(0), num(1), num(1))
		}
	}
	fails(t, two(api.OpDiv), api.ErrZero, num(1), num(1), num(1), num(1), num(0))
	fails(t, two(api.OpMod), api.ErrZero, num(1), num(1), num(1), num(1), num(0))
	fails(t, two(api.OpCat), api.ErrSize, num(1), num(1), text(sample.Longest()), num(1), text("a"))
	becomes(t, two(api.OpCat), text(sample.Longest()), num(1), num(1), text(sample.Longest()), num(1), text(""))
	becomes(t, order(api.COp+api.OpAdd, 0, 0, 0), num(6), num(3))
}

// H4: OpNot and OpNeg are of one register; what stands in the first one does not count.
func TestOneSided(t *testing.T) {
	for _, first := range []api.Value{none, num(4), tab(0)} {
		becomes(t, order(api.COp+api.OpNot, 0, 3), yes, first, none, none, no)
		becomes(t, order(api.COp+api.OpNot, 0, 3), no, first, none, none, num(0))
		becomes(t, order(api.COp+api.OpNeg, 0, 3), num(-5), first, none, none, num(5))
		fails(t, order(api.COp+api.OpNeg, 0, 3), api.ErrKind, first, none, none, text("5"))
	}
}

// H4: CNew makes a table behind all others, at most MaxTables.
func TestNew(t *testing.T) {
	for many := range api.MaxTables + 1 {
		from := ahead(yes, num(2))
		from.Tables = make([]api.Table, many)
		want := ahead(yes, num(2))
		want.Steps, want.Tables = 6, make([]api.Table, min(many+1, api.MaxTables))
		if many < api.MaxTables {
			want.Frames[0].PC, want.Frames[0].Regs[0] = 2, tab(int64(many))
		} else {
			want.End, want.Err = api.EndFailed, api.ErrSize
		}
		goes(t, order(api.CNew, 0), from, want)
	}
}

// H4: CGet, CLen and CNext look at tables, and change none.
func TestLooks(t *testing.T) {
	get := order(api.CGet, 0, 1, 2)
	becomes(t, get, text("a"), none, tab(1), num(1))
	becomes(t, get, tab(0), none, tab(1), text("k"))
	becomes(t, get, none, yes, tab(1), num(3))
	becomes(t, get, none, yes, tab(1), none)
	becomes(t, get, none, yes, tab(0), num(1))
	becomes(t, order(api.CGet, 0, 0, 0), none, tab(1))
	length := order(api.CLen, 0, 1)
	becomes(t, length, num(2), none, tab(1))
	becomes(t, length, num(0), none, tab(0))
	becomes(t, length, num(0), none, text(""))
	becomes(t, length, num(3), none, text("abc"))
	becomes(t, length, num(300), none, text(sample.Longest()))
	next := order(api.CNext, 0, 1, 2)
	becomes(t, next, num(1), none, tab(1), none)
	becomes(t, next, text("k"), none, tab(1), num(1))
	becomes(t, next, num(2), none, tab(1), text("k"))
	becomes(t, next, none, yes, tab(1), num(2))
	becomes(t, next, none, yes, tab(0), none)
	fails(t, next, api.ErrName, none, tab(1), num(3))
	fails(t, next, api.ErrName, none, tab(0), num(1))
	for _, v := range []api.Value{none, yes, num(1), fun(1)} {
		fails(t, get, api.ErrKind, none, v, num(1))
		fails(t, length, api.ErrKind, none, v)
		fails(t, next, api.ErrKind, none, v, none)
		fails(t, next, api.ErrKind, none, v, num(7))
	}
	fails(t, get, api.ErrKind, none, text("a"), num(1))
	fails(t, next, api.ErrKind, none, text("a"), none)
}

// H4: CSet sets, in the table R[A], R[C] under R[B]; nil takes the key away.
func TestSet(t *testing.T) {
	sets := func(k, v api.Value, keys, vals []api.Value) {
		t.Helper()
		want := ahead(tab(1), k, v)
		want.Steps, want.Frames[0].PC, want.Tables[1] = 6, 2, api.Table{Keys: keys, Vals: vals}
		goes(t, order(api.CSet, 0, 1, 2), ahead(tab(1), k, v), want)
	}
	sets(num(1), no, []api.Value{num(1), text("k"), num(2)}, []api.Value{no, tab(0), yes})
	sets(num(2), fun(0), []api.Value{num(1), text("k"), num(2)}, []api.Value{text("a"), tab(0), fun(0)})
	sets(tab(1), tab(1), []api.Value{num(1), text("k"), num(2), tab(1)}, []api.Value{text("a"), tab(0), yes, tab(1)})
	sets(text("k"), none, []api.Value{num(1), num(2)}, []api.Value{text("a"), yes})
	sets(num(3), none, []api.Value{num(1), text("k"), num(2)}, []api.Value{text("a"), tab(0), yes})
	for _, v := range []api.Value{none, no, num(1), text("a"), fun(1)} {
		fails(t, order(api.CSet, 0, 1, 2), api.ErrKind, v, num(1), num(2))
	}
	fails(t, order(api.CSet, 0, 1, 2), api.ErrKind, tab(1), none, num(2))
	fails(t, order(api.CSet, 0, 1, 2), api.ErrKind, tab(1), none, none)
}

// full is ahead's state with as many keys in its table 1 as a table may have.
func full(regs ...api.Value) api.State {
	s := ahead(regs...)
	s.Tables[1] = api.Table{}
	for i := range api.MaxKeys {
		s.Tables[1].Keys = append(s.Tables[1].Keys, num(int64(i)))
		s.Tables[1].Vals = append(s.Tables[1].Vals, yes)
	}
	return s
}

// H4: a full table takes no other key, but another value.
func TestFullTable(t *testing.T) {
	want := full(tab(1), num(100), num(1))
	want.Steps, want.End, want.Err = 6, api.EndFailed, api.ErrSize
	goes(t, order(api.CSet, 0, 1, 2), full(tab(1), num(100), num(1)), want)
	want = full(tab(1), num(99), num(1))
	want.Steps, want.Frames[0].PC, want.Tables[1].Vals[99] = 6, 2, num(1)
	goes(t, order(api.CSet, 0, 1, 2), full(tab(1), num(99), num(1)), want)
}

// H4: CJump, CLoop and CTest go on elsewhere; nothing else changes.
func TestGoesOn(t *testing.T) {
	jumps := func(tried api.Instr, to int, regs ...api.Value) {
		t.Helper()
		want := ahead(slices.Clone(regs)...)
		want.Steps, want.Frames[0].PC = 6, to
		goes(t, tried, ahead(regs...), want)
	}
	for to := range 5 {
		jumps(order(api.CJump, to), to)
		jumps(order(api.CTest, 3, to), to)
		jumps(order(api.CTest, 3, to), to, yes, yes, yes, no)
		for _, v := range []api.Value{yes, num(0), text(""), tab(0), fun(0)} {
			jumps(order(api.CTest, 3, to), 2, none, none, none, v)
		}
	}
	jumps(order(api.CLoop, 0), 0)
	jumps(order(api.CLoop, 1), 1)
}

// H4: CEmit tells a register's Text.
func TestEmit(t *testing.T) {
	for v, told := range map[api.Value]string{
		none: "nil", yes: "true", no: "false", num(math.MinInt64): "-9223372036854775808",
		text(""): "", text("a b"): "a b", text(sample.Longest()): sample.Longest(), tab(1): "table", fun(2): "function",
	} {
		want := ahead(num(1), v)
		want.Steps, want.Frames[0].PC, want.Out = 6, 2, []string{"x", told}
		goes(t, order(api.CEmit, 1), ahead(num(1), v), want)
	}
}

// H4: CCall lays a frame: as many arguments as there are, as far as there are parameters, nil behind them.
func TestCall(t *testing.T) {
	calls := func(tried api.Instr, frame api.Frame, regs ...api.Value) {
		t.Helper()
		want := ahead(slices.Clone(regs)...)
		want.Steps, want.Frames[0].PC = 6, 2
		want.Frames = append(want.Frames, frame)
		goes(t, tried, ahead(regs...), want)
	}
	regs := []api.Value{num(0), fun(0), num(2), num(3), num(4), num(5)}
	calls(order(api.CCall, 0, 1, 0), api.Frame{Fun: 0, Dest: 0, Regs: make([]api.Value, 4)}, regs...)
	calls(order(api.CCall, 1, 1, 1), api.Frame{Fun: 0, Dest: 1, Regs: []api.Value{num(2), none, none, none}}, regs...)
	calls(order(api.CCall, 5, 1, 2), api.Frame{Fun: 0, Dest: 5, Regs: []api.Value{num(2), num(3), none, none}}, regs...)
	calls(order(api.CCall, 5, 1, 4), api.Frame{Fun: 0, Dest: 5, Regs: []api.Value{num(2), num(3), none, none}}, regs...)
	regs[1] = fun(2)
	calls(order(api.CCall, 3, 1, 4), api.Frame{Fun: 2, Dest: 3, Regs: make([]api.Value, 1)}, regs...)
	regs[1] = fun(1)
	calls(order(api.CCall, 3, 1, 4), api.Frame{Fun: 1, Dest: 3, Regs: make([]api.Value, 6)}, regs...)
	for _, v := range []api.Value{none, yes, num(0), text("a"), tab(0)} {
		fails(t, order(api.CCall, 0, 1, 2), api.ErrKind, num(7), v)
	}
}

// deep is ahead's state with frames of h below main's, so many in all.
func deep(frames int, regs ...api.Value) api.State {
	s := ahead(regs...)
	for len(s.Frames) < frames {
		s.Frames = slices.Insert(s.Frames, 0, api.Frame{Fun: 2, Regs: []api.Value{num(int64(frames))}})
	}
	return s
}

// H4: there are at most MaxCalls frames; what is called is asked first.
func TestDeepCall(t *testing.T) {
	tried := order(api.CCall, 0, 1, 1)
	want := deep(api.MaxCalls-1, num(7), fun(0), num(8))
	want.Steps, want.Frames[api.MaxCalls-2].PC = 6, 2
	want.Frames = append(want.Frames, api.Frame{Regs: []api.Value{num(8), none, none, none}})
	goes(t, tried, deep(api.MaxCalls-1, num(7), fun(0), num(8)), want)
	for v, code := range map[api.Value]api.Errno{fun(0): api.ErrSize, num(0): api.ErrKind} {
		want = deep(api.MaxCalls, num(7), v)
		want.Steps, want.End, want.Err = 6, api.EndFailed, code
		goes(t, tried, deep(api.MaxCalls, num(7), v), want)
	}
}

// H4: CReturn takes the last frame away; the register Dest of the one below gets the answer, and that one is where it was.
func TestReturn(t *testing.T) {
	for dest := range 4 {
		s := ahead(num(5), text("answer"))
		s.Frames[0].Dest = dest
		below := api.Frame{Fun: 0, PC: 1, Regs: []api.Value{num(0), num(1), num(2), num(3)}}
		s.Frames = []api.Frame{{Fun: 2, Regs: []api.Value{yes}}, below, s.Frames[0]}
		want := ahead()
		want.Frames = []api.Frame{s.Frames[0], {Fun: 0, PC: 1, Regs: slices.Clone(below.Regs)}}
		want.Steps, want.Frames[1].Regs[dest] = 6, text("answer")
		goes(t, order(api.CReturn, 1), s, want)
	}
}

// H4: the first call's frame stays as it is, and the run is done.
func TestDone(t *testing.T) {
	for _, v := range []api.Value{none, no, num(3), text("a"), tab(1), fun(0)} {
		want := ahead(num(1), num(2), v)
		want.Steps, want.End, want.Last = 6, api.EndDone, v
		goes(t, order(api.CReturn, 2), ahead(num(1), num(2), v), want)
	}
}

// H2: a program begins in main, at its first order, with nothing.
func TestBegin(t *testing.T) {
	for main := range 2 {
		p := program(order(api.CNew, 0))
		p.Main = 1 + main
		got, code := machine.Begin(p)
		want := api.State{Frames: []api.Frame{{Fun: p.Main, Regs: make([]api.Value, p.Funs[p.Main].Regs)}}}
		if !same(got, want) || code != api.OK || !machine.May(p, got) {
			t.Errorf("Begin: %+v, %d", got, code)
		}
	}
}

// H2: of a program that may not be there is no beginning, and nothing else is told (P2).
func TestNoBegin(t *testing.T) {
	p := program(order(api.CNew, 0))
	p.Main = 0
	for _, p := range []api.Code{{}, p, program(order(api.CNew, 6)), program(order(99)), {Funs: make([]api.Fn, 1)}} {
		if got, e := machine.Begin(p); !same(got, api.State{}) || e != api.ErrForm || code.May(p) {
			t.Errorf("Begin: %+v, %d", got, e)
		}
	}
}

// H3: what is wrong: a program or a state that may not be, and behind that the fuel.
func TestGoRefuses(t *testing.T) {
	p := program(order(api.CNew, 0))
	refuses := func(p api.Code, s api.State, fuel int, want api.Errno) {
		t.Helper()
		if got, code := machine.Go(p, s, fuel); !same(got, api.State{}) || code != want {
			t.Errorf("Go with the fuel %d: %+v, %d; want %d", fuel, got, code, want)
		}
	}
	wrong := ahead()
	wrong.Steps = -1
	for _, fuel := range []int{math.MinInt, -1, 0, 7, api.MaxFuel, api.MaxFuel + 1, math.MaxInt} {
		refuses(p, wrong, fuel, api.ErrForm)
		refuses(p, api.State{}, fuel, api.ErrForm)
		refuses(api.Code{}, ahead(), fuel, api.ErrForm)
		refuses(program(order(api.CNew, 6)), ahead(), fuel, api.ErrForm)
		if fuel < 0 || fuel > api.MaxFuel {
			refuses(p, ahead(), fuel, api.ErrRange)
			s := ahead()
			s.End = api.EndDone
			refuses(p, s, fuel, api.ErrRange)
		}
	}
}

// counting is a program that never ends: each of its rounds takes three steps, and adds one to its register 1.
func counting() api.Code {
	return api.Code{Funs: []api.Fn{{Regs: 3, Consts: []api.Value{num(0), num(1)}, Code: []api.Instr{
		order(api.CConst, 1, 0), order(api.CConst, 2, 1), order(api.COp+api.OpAdd, 1, 1, 2), order(api.CMove, 0, 1), order(api.CLoop, 2),
	}}}}
}

// H3: as many steps are done as there is fuel, none where Steps is there already.
func TestFuel(t *testing.T) {
	p := counting()
	s, _ := machine.Begin(p)
	for _, fuel := range []int{0, 1, 2, 3, 4, 5, 6, 7, 8, 301, api.MaxFuel - 1, api.MaxFuel} {
		got, code := machine.Go(p, s, fuel)
		if got.Steps != fuel || got.End != api.EndFuel || code != api.OK || fuel > 1 && got.Frames[0].Regs[1] != num(int64(fuel/3)) {
			t.Errorf("Go with the fuel %d: %+v, %d", fuel, got, code)
		}
		for _, less := range []int{0, fuel / 2, fuel} {
			if again, code := machine.Go(p, got, less); !same(again, got) || code != api.OK {
				t.Errorf("Go on from %d with the fuel %d: %+v, %d", fuel, less, again, code)
			}
		}
	}
	late := ahead()
	late.Steps = api.MaxFuel
	if got, code := machine.Go(program(order(api.CNew, 0)), late, api.MaxFuel); !same(got, late) || code != api.OK {
		t.Errorf("Go behind all fuel: %+v, %d", got, code)
	}
}

// H3: nothing is done any more where the run ended.
func TestEnded(t *testing.T) {
	p := program(order(api.CNew, 0))
	done, failed := ahead(num(1)), ahead(num(1))
	done.End, done.Last = api.EndDone, text("z")
	failed.End, failed.Err = api.EndFailed, api.ErrZero
	for _, s := range []api.State{done, failed} {
		for _, fuel := range []int{0, s.Steps, s.Steps + 1, api.MaxFuel} {
			if got, code := machine.Go(p, s, fuel); !same(got, s) || code != api.OK {
				t.Errorf("Go: %+v, %d; want %+v", got, code, s)
			}
		}
	}
}

// H3, H4: a program that calls itself, tells on its way back, and answers.
func TestWhole(t *testing.T) {
	count := api.Fn{Params: 1, Regs: 4, Consts: []api.Value{num(1), fun(0)}, Code: []api.Instr{
		order(api.CTest, 0, 7), order(api.CConst, 1, 0), order(api.COp+api.OpLess, 2, 0, 1), order(api.CTest, 2, 8),
		order(api.CConst, 3, 0), order(api.CReturn, 3), order(api.CJump, 0), order(api.CReturn, 1),
		order(api.COp+api.OpSub, 3, 0, 1), order(api.CConst, 2, 1), order(api.CCall, 2, 2, 1), order(api.CEmit, 0),
		order(api.COp+api.OpMul, 2, 2, 0), order(api.CReturn, 2),
	}}
	p := api.Code{Main: 1, Funs: []api.Fn{count, {Regs: 2, Consts: []api.Value{fun(0), num(4)}, Code: []api.Instr{
		order(api.CConst, 0, 0), order(api.CConst, 1, 1), order(api.CCall, 0, 0, 1), order(api.CReturn, 0),
	}}}}
	s, _ := machine.Begin(p)
	got, code := machine.Go(p, s, api.MaxFuel)
	if code != api.OK || got.End != api.EndDone || got.Last != num(24) || strings.Join(got.Out, " ") != "1 2 3 4" || len(got.Frames) != 1 || got.Frames[0].PC != 3 {
		t.Errorf("Go: %+v, %d", got, code)
	}
	if got.Steps != 4+4*10+6 {
		t.Errorf("%d steps", got.Steps)
	}
}
