package record_test

import (
	"math"
	"slices"
	"testing"

	"packtrail/api"
	"packtrail/machine"
	"packtrail/record"
	"packtrail/sample"
	"packtrail/trace"
)

var (
	num  = sample.Num
	text = sample.Text
	tab  = sample.Tab
	fun  = sample.Fun
	yes  = sample.Bool(true)
	no   = sample.Bool(false)
	none api.Value
)

// order is one of the machine's with some of its fields, A first.
func order(op int, fields ...int) api.Instr {
	all := append(slices.Clone(fields), 0, 0, 0)
	return api.Instr{Op: op, A: all[0], B: all[1], C: all[2]}
}

// loop is a program whose main, the second function, has six registers and these orders. The first one answers its argument.
func loop(orders ...api.Instr) api.Code {
	consts := []api.Value{num(1), text("k"), no, none, fun(0), num(0)}
	return api.Code{Main: 1, Funs: []api.Fn{
		{Params: 1, Regs: 2, Code: []api.Instr{order(api.CReturn, 0)}},
		{Regs: 6, Consts: consts, Code: orders},
	}}
}

// at is a state of loop at an order of main, with these registers, and nil behind them; below it is another frame of main's.
func at(pc int, regs ...api.Value) api.State {
	return api.State{
		Frames: []api.Frame{
			{Fun: 1, PC: 0, Regs: []api.Value{num(-1), num(-2), num(-3), num(-4), num(-5), num(-6)}},
			{Fun: 1, PC: pc, Dest: 4, Regs: append(slices.Clone(regs), make([]api.Value, 6-len(regs))...)},
		},
		Tables: []api.Table{{}, {Keys: []api.Value{num(1), text("k"), num(2)}, Vals: []api.Value{text("a"), tab(0), yes}}},
		Out:    []string{"x"},
		Steps:  5,
	}
}

// records asks for the round of a state, which takes so many steps, with each most with which it is to be recorded, and some with which it need not be.
func records(t *testing.T, p api.Code, s api.State, steps int) api.Trace {
	t.Helper()
	if n := round(p, s); n != steps {
		t.Fatalf("the round takes %d steps, not %d: %+v", n, steps, p.Funs[1].Code)
	}
	for _, most := range []int{4*steps - 2, 4*steps - 1, 4 * steps, 4*steps + 1, 4*steps + 3, 4*steps + 4, api.MaxIns - 1, api.MaxIns} {
		if _, ok := holds(t, p, s, min(most, api.MaxIns)); !ok && most >= 4*steps {
			t.Fatalf("not recorded with %d: %+v", most, p.Funs[1].Code)
		}
	}
	r, _ := record.Of(p, s, api.MaxIns)
	likeMachineNear(t, p, r, s, steps)
	return r
}

// refuses asks for a round that there is none of, or that is not plain.
func refuses(t *testing.T, p api.Code, s api.State) {
	t.Helper()
	for _, most := range []int{math.MinInt, -1, 0, 1, 2, 3, 4, 8, 12, 40, 399, 400, 401, math.MaxInt} {
		if r, ok := record.Of(p, s, most); ok || !isZero(r) {
			t.Fatalf("recorded with %d: %+v from %+v: %+v", most, p, s, r)
		}
	}
}

// K1, K2: the document's own kind of loop: nobody comes back to its first order.
func TestDoubles(t *testing.T) {
	p := api.Code{Funs: []api.Fn{{Regs: 1, Consts: []api.Value{num(1)}, Code: []api.Instr{order(api.CConst), order(api.COp + api.OpAdd), order(api.CLoop, 1)}}}}
	s, _ := machine.Begin(p)
	refuses(t, p, s)
	s, _ = machine.Go(p, s, 1)
	r, ok := holds(t, p, s, 8)
	if !ok || r.Fun != 0 || r.Head != 1 || r.Snaps[len(r.Snaps)-1].Steps != 2 {
		t.Errorf("Of: %+v, %v", r, ok)
	}
	for fuel := range 100 {
		got := likeMachine(t, p, r, s, fuel)
		if rounds := max(0, fuel-1) / 2; got.Steps != 1+2*rounds || rounds < 60 && got.Frames[0].Regs[0] != num(1<<rounds) {
			t.Errorf("with %d: %+v", fuel, got)
		}
	}
	s, _ = machine.Go(p, s, 2)
	if r, ok = holds(t, p, s, 8); !ok || r.Head != 2 {
		t.Errorf("Of: %+v, %v", r, ok)
	}
}

// K1, K3, K4: each order that may stand in a plain round, alone and twice, with registers that fit.
func TestEachOrder(t *testing.T) {
	for _, row := range []struct {
		order api.Instr
		regs  []api.Value
	}{
		{order(api.CMove, 0, 1), []api.Value{num(1), num(2)}},
		{order(api.CMove, 2, 2), []api.Value{num(1), num(2), text("a")}},
		{order(api.CConst, 0, 1), []api.Value{num(1)}},
		{order(api.CConst, 5, 4), nil},
		{order(api.CNew, 3), nil},
		{order(api.CGet, 0, 1, 2), []api.Value{none, tab(1), text("k")}},
		{order(api.CGet, 0, 1, 2), []api.Value{none, tab(1), none}},
		{order(api.CGet, 4, 1, 1), []api.Value{none, tab(1)}},
		{order(api.CSet, 0, 1, 2), []api.Value{tab(1), num(1), num(7)}},
		{order(api.CSet, 0, 1, 2), []api.Value{tab(1), num(3), num(7)}},
		{order(api.CSet, 0, 1, 2), []api.Value{tab(1), text("k"), none}},
		{order(api.CSet, 0, 0, 0), []api.Value{tab(0)}},
		{order(api.CLen, 0, 1), []api.Value{none, tab(1)}},
		{order(api.CLen, 0, 1), []api.Value{none, text("abc")}},
		{order(api.CLen, 1, 2), []api.Value{none, none, text("")}},
		{order(api.CNext, 0, 1, 2), []api.Value{none, tab(1), none}},
		{order(api.CNext, 2, 1, 0), []api.Value{num(2), tab(1)}},
		{order(api.CJump, 1), nil},
		{order(api.CTest, 0, 1), []api.Value{yes}},
		{order(api.CTest, 0, 1), []api.Value{no}},
		{order(api.CEmit, 0), []api.Value{text("told")}},
		{order(api.CEmit, 5), nil},
		{order(api.COp+api.OpAdd, 0, 0, 1), []api.Value{num(3), num(4)}},
		{order(api.COp+api.OpSub, 0, 0, 1), []api.Value{num(3), num(4)}},
		{order(api.COp+api.OpMul, 0, 0, 0), []api.Value{num(3)}},
		{order(api.COp+api.OpDiv, 0, 0, 1), []api.Value{num(math.MinInt64), num(-1)}},
		{order(api.COp+api.OpMod, 2, 0, 1), []api.Value{num(-7), num(2)}},
		{order(api.COp+api.OpCat, 0, 0, 1), []api.Value{text("a"), num(4)}},
		{order(api.COp+api.OpSame, 0, 1, 2), []api.Value{none, tab(0), tab(0)}},
		{order(api.COp+api.OpSame, 0, 1, 2), []api.Value{none, fun(1), none}},
		{order(api.COp+api.OpLess, 2, 0, 1), []api.Value{num(1), num(2)}},
		{order(api.COp+api.OpLess, 2, 1, 0), []api.Value{num(1), num(2)}},
		{order(api.COp+api.OpMost, 2, 0, 1), []api.Value{text("a"), text("a")}},
		{order(api.COp+api.OpNot, 0, 1), []api.Value{none, none}},
		{order(api.COp+api.OpNeg, 0, 0), []api.Value{num(5)}},
	} {
		records(t, loop(row.order, order(api.CLoop)), at(0, row.regs...), 2)
		records(t, loop(row.order, order(api.CLoop)), at(1, row.regs...), 2)
		other := row.order
		if other.Op == api.CJump {
			other.A = 2
		} else if other.Op == api.CTest {
			other.B = 2
		}
		records(t, loop(row.order, other, order(api.CLoop)), at(0, row.regs...), 3)
	}
}

// K1: a round of one step, which has no order but, perhaps, one that asks for the truth.
func TestOneStep(t *testing.T) {
	for _, o := range []api.Instr{order(api.CJump, 1), order(api.CLoop, 1), order(api.CTest, 2, 1)} {
		p := loop(order(api.CNew), o, order(api.CReturn))
		records(t, p, at(1), 1)
		refuses(t, p, at(0))
		refuses(t, p, at(2))
	}
	refuses(t, loop(order(api.CNew), order(api.CTest, 2, 1), order(api.CReturn)), at(1, none, none, yes))
}

// K1: a call or a return in the round, or a step that fails.
func TestNotPlain(t *testing.T) {
	call := order(api.CCall, 0, 4, 1)
	for _, o := range []api.Instr{call, order(api.CReturn, 0), order(api.CCall, 0, 1, 0)} {
		p := loop(order(api.CMove, 0, 1), o, order(api.CLoop))
		for pc := range 3 {
			refuses(t, p, at(pc, none, none, none, none, fun(0), num(3)))
		}
	}
	for _, row := range []struct {
		order api.Instr
		regs  []api.Value
	}{
		{order(api.CGet, 0, 1, 2), nil},
		{order(api.CGet, 0, 1, 2), []api.Value{none, text("a"), num(1)}},
		{order(api.CSet, 0, 1, 2), []api.Value{num(1), num(1), num(1)}},
		{order(api.CSet, 0, 1, 2), []api.Value{tab(1), none, num(1)}},
		{order(api.CLen, 0, 1), []api.Value{none, num(1)}},
		{order(api.CNext, 0, 1, 2), []api.Value{none, tab(1), num(3)}},
		{order(api.CNext, 0, 1, 2), []api.Value{none, none, none}},
		{order(api.COp+api.OpAdd, 0, 1, 2), []api.Value{none, num(1), text("1")}},
		{order(api.COp+api.OpDiv, 0, 1, 2), []api.Value{none, num(1), num(0)}},
		{order(api.COp+api.OpMod, 0, 1, 2), []api.Value{none, num(1), num(0)}},
		{order(api.COp+api.OpCat, 0, 1, 2), []api.Value{none, text(sample.Longest()), num(0)}},
		{order(api.COp+api.OpLess, 0, 1, 2), []api.Value{none, text("a"), num(0)}},
		{order(api.COp+api.OpNeg, 0, 1), []api.Value{none, yes}},
	} {
		for pc := range 3 {
			refuses(t, loop(order(api.CEmit), row.order, order(api.CLoop)), at(pc, row.regs...))
		}
	}
	full := at(0)
	full.Tables = append(full.Tables, make([]api.Table, 198)...)
	refuses(t, loop(order(api.CNew), order(api.CLoop)), full)
	full.Tables = full.Tables[:199]
	records(t, loop(order(api.CNew), order(api.CLoop)), full, 2)
}

// K1: what stands elsewhere in the function makes no round less plain.
func TestPlainHere(t *testing.T) {
	p := loop(order(api.CTest, 0, 3), order(api.CCall, 0, 4, 1), order(api.CReturn, 0), order(api.CEmit, 1), order(api.CLoop))
	records(t, p, at(0), 3)
	records(t, p, at(3), 3)
	records(t, p, at(4, no), 3)
	refuses(t, p, at(0, yes, none, none, none, fun(0)))
	refuses(t, p, at(3, yes, none, none, none, fun(0)))
	refuses(t, p, at(1))
	refuses(t, p, at(2))
}

// K1: there is no round where the head does not come again: the run ends, or goes on elsewhere for ever.
func TestNoRound(t *testing.T) {
	p := loop(order(api.CMove, 0, 1), order(api.CNew, 2), order(api.CMove, 3, 4), order(api.CLoop, 2))
	refuses(t, p, at(0))
	refuses(t, p, at(1))
	records(t, p, at(2), 2)
	records(t, p, at(3), 2)
	refuses(t, loop(order(api.CMove, 0, 1), order(api.CJump, 1)), at(0))
}

// K1: a frame below that is at the head is not the last frame; and a call that comes to the head is none of the round's.
func TestOtherFrames(t *testing.T) {
	p := loop(order(api.CNew, 0), order(api.CConst, 1, 4), order(api.CCall, 0, 1, 0), order(api.CLoop))
	p.Funs[1].Consts[4] = fun(1)
	refuses(t, p, at(0))
	back := loop(order(api.CNew, 0), order(api.CReturn, 0))
	s := at(0)
	s.Frames[0].PC = 0
	refuses(t, back, s)
	s.Frames[0].PC = 1
	s.Frames[1].PC = 1
	refuses(t, back, s)
	one := at(0)
	one.Frames = one.Frames[1:]
	one.Frames[0].Dest = 0
	p = loop(order(api.CEmit, 0), order(api.CLoop))
	deep := at(0)
	for len(deep.Frames) < api.MaxCalls {
		deep.Frames = append(deep.Frames, at(0).Frames[1])
	}
	for _, s := range []api.State{one, deep} {
		records(t, p, s, 2)
	}
}

// counts is a program that counts the register 0 up to 1, and goes twice round an inner loop each time, from the order 3 to the order 6.
func counts() api.Code {
	return loop(
		order(api.COp+api.OpAdd, 0, 0, 2), order(api.CConst, 4, 5), order(api.CEmit, 0),
		order(api.COp+api.OpAdd, 4, 4, 2), order(api.COp+api.OpLess, 5, 4, 3), order(api.CTest, 5, 7), order(api.CLoop, 3),
		order(api.COp+api.OpLess, 5, 0, 1), order(api.CTest, 5, 10), order(api.CLoop), order(api.CReturn, 0),
	)
}

// K1: the round ends where the head comes for the first time again: within another loop that is one round of the inner one.
func TestInnerLoop(t *testing.T) {
	p := counts()
	for _, row := range []struct{ inner, pc, steps int }{
		{2, 0, 13}, {2, 1, 13}, {2, 2, 13}, {2, 7, 13}, {2, 8, 13}, {2, 9, 13}, {1, 0, 9}, {1, 3, 9}, {9, 0, 41}, {23, 0, 97},
	} {
		s := at(row.pc, num(0), num(9), num(1), num(int64(row.inner)), num(0))
		if row.pc == 8 {
			s.Frames[1].Regs[5] = yes
		}
		records(t, p, s, row.steps)
	}
	records(t, p, at(3, num(0), num(9), num(1), num(4), num(0)), 4)
	records(t, p, at(4, num(0), num(9), num(1), num(4), num(0)), 4)
	records(t, p, at(6, num(0), num(9), num(1), num(4), num(0)), 4)
	records(t, p, at(5, num(0), num(9), num(1), num(4), num(0), yes), 4)
	refuses(t, p, at(7, num(9), num(9), num(1), num(4), num(0)))
}

// K3: the inner loop's rounds are those that were recorded: with more or fewer of them the trace is left.
func TestOtherRounds(t *testing.T) {
	p := counts()
	r := records(t, p, at(0, num(0), num(9), num(1), num(3), num(0)), 17)
	for inner := range int64(6) {
		for last := range int64(5) {
			for fuel := range 90 {
				likeMachine(t, p, r, at(0, num(0), num(last), num(1), num(inner), num(0)), fuel)
			}
		}
	}
}

// K1: with most from 1 to 3 no round need be recorded; what is recorded is as ever.
func TestLeastMost(t *testing.T) {
	for most := 1; most <= 12; most++ {
		for steps, p := range map[int]api.Code{
			1: loop(order(api.CLoop)), 2: loop(order(api.CJump, 1), order(api.CLoop)), 3: loop(order(api.CEmit), order(api.CSet, 1, 2, 3), order(api.CLoop)),
		} {
			if _, ok := holds(t, p, at(0, num(1), tab(0), yes, no), most); !ok && 4*steps <= most {
				t.Errorf("not recorded: %d steps with %d", steps, most)
			}
		}
	}
}

// long is a program whose only round takes so many steps, each of which reads three registers that nobody has read; and a state of it.
func long(steps int) (api.Code, api.State) {
	f := api.Fn{Regs: max(1, min(api.MaxRegs, 3*steps-3))}
	s := api.State{Tables: make([]api.Table, 84), Frames: []api.Frame{{Regs: make([]api.Value, f.Regs)}}}
	for i := range steps - 1 {
		if 3*i+2 < f.Regs {
			f.Code = append(f.Code, order(api.CSet, 3*i, 3*i+1, 3*i+2))
			copy(s.Frames[0].Regs[3*i:], []api.Value{tab(int64(i)), num(int64(i)), fun(0)})
		} else {
			f.Code = append(f.Code, order(api.CNew, 0))
		}
	}
	f.Code = append(f.Code, order(api.CLoop))
	return api.Code{Funs: []api.Fn{f}}, s
}

// K1, K2: a round of most / 4 steps is recorded, however many orders each of them needs, up to the greatest most.
func TestMost(t *testing.T) {
	for _, steps := range []int{1, 2, 3, 10, 50, 83, 84, 99, 100} {
		p, s := long(steps)
		for most := 4*steps - 8; most <= min(api.MaxIns, 4*steps+8); most++ {
			if most < 1 {
				continue
			}
			if _, ok := holds(t, p, s, most); !ok && most >= 4*steps {
				t.Errorf("not recorded: %d steps with %d", steps, most)
			}
		}
	}
	for _, steps := range []int{101, 102, 150, 300} {
		p, s := long(steps)
		holds(t, p, s, api.MaxIns)
	}
}

// K1: the steps that were done already count for nothing, also where there is no fuel for a round.
func TestLateSteps(t *testing.T) {
	p := loop(order(api.COp+api.OpAdd, 0, 0, 1), order(api.CEmit, 0), order(api.CLoop))
	first := records(t, p, at(0, num(1), num(2)), 3)
	for _, steps := range []int{1, 2, 59996, 59997, 59998, 59999, 60000} {
		s := at(0, num(1), num(2))
		s.Steps = steps
		if r := records(t, p, s, 3); !sample.SameTrace(r, first) {
			t.Errorf("with %d: %+v", steps, r)
		}
	}
}

// K1: what may not be, what has ended, and a most that is out of range.
func TestWrong(t *testing.T) {
	p := loop(order(api.CEmit, 0), order(api.CLoop))
	records(t, p, at(0), 2)
	for _, most := range []int{math.MinInt, -400, -4, -1, 0, 401, 404, 1000, math.MaxInt} {
		if r, ok := record.Of(p, at(0), most); ok || !isZero(r) {
			t.Errorf("with %d: %+v, %v", most, r, ok)
		}
	}
	for _, wrong := range []api.Code{{}, {Funs: p.Funs}, {Funs: p.Funs[:1], Main: 1}, loop(), loop(order(api.CEmit, 0)), loop(order(api.CEmit, 6), order(api.CLoop)), loop(order(api.CEmit, 0), order(api.CLoop, 2))} {
		refuses(t, wrong, at(0))
		refuses(t, wrong, api.State{})
	}
	refuses(t, p, api.State{})
	for _, change := range []func(s *api.State){
		func(s *api.State) { s.Frames = nil },
		func(s *api.State) { s.Frames[1].PC = 2 },
		func(s *api.State) { s.Frames[1].PC = -1 },
		func(s *api.State) { s.Frames[1].Fun = 2 },
		func(s *api.State) { s.Frames[1].Dest = 6 },
		func(s *api.State) { s.Frames[0].Dest = 1 },
		func(s *api.State) { s.Frames[1].Regs = s.Frames[1].Regs[1:] },
		func(s *api.State) { s.Frames[1].Regs[5] = tab(2) },
		func(s *api.State) { s.Frames[0].Regs[5] = fun(2) },
		func(s *api.State) { s.Tables[0] = s.Tables[1]; s.Tables[0].Vals = nil },
		func(s *api.State) { s.Steps = 0 },
		func(s *api.State) { s.Steps = 60001 },
		func(s *api.State) { s.Steps = -1; s.Out = nil },
		func(s *api.State) { s.Out[0] = sample.Longest() + "m" },
		func(s *api.State) { s.End = api.EndDone },
		func(s *api.State) { s.End, s.Last = api.EndDone, num(1) },
		func(s *api.State) { s.End, s.Err = api.EndFailed, api.ErrKind },
		func(s *api.State) { s.End = 3 },
		func(s *api.State) { s.End = -1 },
		func(s *api.State) { s.Err = api.ErrKind },
		func(s *api.State) { s.Last = num(1) },
	} {
		s := at(0)
		change(&s)
		refuses(t, p, s)
	}
}

// K3: a test that goes the other way, from every kind of value, with what was done ahead of it.
func TestOtherWay(t *testing.T) {
	p := loop(order(api.CNew, 3), order(api.CSet, 3, 1, 1), order(api.CEmit, 0), order(api.CMove, 4, 2), order(api.CTest, 0, 6), order(api.CMove, 1, 2), order(api.CMove, 2, 0), order(api.CLoop))
	all := []api.Value{none, no, yes, num(0), num(1), text(""), text("a"), tab(0), fun(0)}
	for _, v := range all {
		steps := 8
		if v == none || v == no {
			steps = 7
		}
		r := records(t, p, at(0, v, num(1), num(2)), steps)
		for _, other := range all {
			for fuel := range 30 {
				got := likeMachine(t, p, r, at(0, other, num(1), num(2)), fuel)
				if same := (other == none || other == no) == (steps == 7); fuel >= 5+steps && (got.Steps >= 5+steps) != same {
					t.Errorf("of %v from %v: %d steps", v, other, got.Steps)
				}
			}
		}
	}
}

// K3: a register that is set is what it was, up to the order that sets it, also where two are exchanged, and where a copy stays behind.
func TestRegisters(t *testing.T) {
	swap := []api.Instr{order(api.CMove, 2, 0), order(api.CMove, 0, 1), order(api.CMove, 1, 2)}
	split := order(api.COp+api.OpDiv, 3, 0, 1)
	for i := range 4 {
		p := loop(append(slices.Insert(slices.Clone(swap), i, split), order(api.CLoop))...)
		r := records(t, p, at(0, num(6), num(4), num(9)), 5)
		for a := range int64(4) {
			for b := range int64(4) {
				for fuel := 5; fuel < 30; fuel++ {
					likeMachine(t, p, r, at(0, num(a), num(b), none), fuel)
				}
			}
		}
	}
	twice := loop(order(api.CConst, 0, 0), order(api.COp+api.OpAdd, 1, 0, 1), order(api.CConst, 0, 1), order(api.COp+api.OpCat, 2, 2, 0), order(api.CMove, 0, 1), order(api.CLoop))
	r := records(t, twice, at(0, none, num(1), text("a")), 6)
	for fuel := range 2000 {
		likeMachine(t, twice, r, at(0, tab(1), num(2), text("")), fuel)
	}
}

// K3: what the round did to tables is there, where the trace is left, and a table may be the same as another one.
func TestTables(t *testing.T) {
	p := loop(
		order(api.CSet, 0, 2, 1), order(api.CGet, 3, 1, 2), order(api.CSet, 1, 2, 4), order(api.CGet, 4, 0, 2), order(api.CLen, 5, 0),
		order(api.CNext, 2, 0, 2), order(api.CTest, 2, 0), order(api.CLoop),
	)
	regs := []api.Value{tab(0), tab(1), num(1), none, text("v"), none}
	for _, first := range []api.Value{tab(0), tab(1)} {
		for _, second := range []api.Value{tab(0), tab(1)} {
			steps := 7 + int(first.N) // the empty table has no other key behind the one that is set
			r := records(t, p, at(0, first, second, num(1), none, text("v")), steps)
			for i := range 6 {
				for _, v := range []api.Value{none, no, num(1), num(2), text("k"), text("v"), tab(0), tab(1), fun(1)} {
					now := slices.Clone(regs)
					now[i] = v
					for fuel := 5; fuel < 40; fuel++ {
						likeMachine(t, p, r, at(0, now...), fuel)
					}
				}
			}
		}
	}
}

// K3, K4: rounds go on till a limit of the machine's is reached, which it meets itself.
func TestLimits(t *testing.T) {
	for _, row := range []struct {
		orders []api.Instr
		regs   []api.Value
		rounds int
		err    api.Errno
	}{
		{[]api.Instr{order(api.CNew, 0)}, nil, 198, api.ErrSize},
		{[]api.Instr{order(api.COp+api.OpCat, 0, 0, 1)}, []api.Value{text(""), text("ab")}, 150, api.ErrSize},
		{[]api.Instr{order(api.COp+api.OpAdd, 1, 1, 2), order(api.CSet, 0, 1, 1)}, []api.Value{tab(0), num(0), num(1)}, 100, api.ErrSize},
		{[]api.Instr{order(api.COp+api.OpSub, 1, 1, 2), order(api.COp+api.OpDiv, 3, 2, 1)}, []api.Value{none, num(8), num(1)}, 7, api.ErrZero},
		{[]api.Instr{order(api.CNext, 1, 0, 1), order(api.CSet, 0, 1, 2)}, []api.Value{tab(1), none, yes}, 3, api.ErrKind},
	} {
		p := loop(append(row.orders, order(api.CLoop))...)
		s := at(0, row.regs...)
		steps := len(p.Funs[1].Code)
		r := records(t, p, s, steps)
		left, _ := trace.Run(p, r, s, api.MaxFuel)
		if left.Steps < 5+steps*row.rounds || left.Steps >= 5+steps*(row.rounds+1) {
			t.Errorf("%v: %d steps", row.orders, left.Steps)
		}
		likeMachine(t, p, r, s, api.MaxFuel)
		if end, _ := machine.Go(p, left, left.Steps+1); end.Err != row.err {
			t.Errorf("%v: %+v", row.orders, end)
		}
	}
}
