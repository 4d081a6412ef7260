package jit_test

import (
	"slices"
	"strings"
	"testing"

	"packtrail/api"
	"packtrail/code"
	"packtrail/compile"
	"packtrail/jit"
	"packtrail/sample"
)

var (
	num  = sample.Num
	text = sample.Text
	fun  = sample.Fun
)

// order is one of the machine's with some of its fields, A first.
func order(op int, fields ...int) api.Instr {
	all := append(slices.Clone(fields), 0, 0, 0)
	return api.Instr{Op: op, A: all[0], B: all[1], C: all[2]}
}

const (
	opAdd  = api.COp + api.OpAdd
	opSub  = api.COp + api.OpSub
	opDiv  = api.COp + api.OpDiv
	opMod  = api.COp + api.OpMod
	opSame = api.COp + api.OpSame
	opLess = api.COp + api.OpLess
	opNot  = api.COp + api.OpNot
)

// counting is a program whose main goes round so often: each round takes four steps, and those of the body, which may use the registers from 4 on, has the number of the round in 0, and 1 in 1. The loop begins at the order 3, and goes on there by a CLoop.
func counting(rounds int, body ...api.Instr) api.Code {
	orders := []api.Instr{order(api.CConst, 0, 0), order(api.CConst, 1, 1), order(api.CConst, 2, 2), order(opLess, 3, 0, 2)}
	orders = append(orders, order(api.CTest, 3, 7+len(body)))
	orders = append(orders, body...)
	orders = append(orders, order(opAdd, 0, 0, 1), order(api.CLoop, 3), order(api.CReturn, 0))
	consts := []api.Value{num(0), num(1), num(int64(rounds)), fun(1), text("k"), num(20)}
	return api.Code{Funs: []api.Fn{
		{Regs: 10, Consts: consts, Code: orders},
		{Params: 1, Regs: 2, Code: []api.Instr{order(api.CReturn, 0)}},
	}}
}

// calling is a body that calls a function: no round with it is plain.
func calling() []api.Instr {
	return []api.Instr{order(api.CConst, 4, 3), order(api.CCall, 5, 4, 1)}
}

// policyOf keeps as many traces, as long, and tries as often as may be.
func policyOf(hot int) api.Policy {
	return api.Policy{Hot: hot, Most: api.MaxIns, Cache: api.MaxCache, Tries: 100}
}

// did asks Run of a program, and holds its stats against what is wanted.
func did(t *testing.T, p api.Code, y api.Policy, fuel int, want api.Stats) api.State {
	t.Helper()
	if !code.May(p) {
		t.Fatalf("may not be: %+v", p)
	}
	s, st := runs(t, p, y, fuel)
	if st != want {
		t.Errorf("with %+v, %d: %+v; want %+v", y, fuel, st, want)
	}
	return s
}

// Q3, Q4: the document's own example.
func TestExample(t *testing.T) {
	s, st := runs(t, counting(100), policyOf(10), api.MaxFuel)
	if s.End != api.EndDone || s.Last != num(100) || s.Steps != 406 || st.Kept != 1 || st.Tried != 1 || st.Inside < 360 || st.Inside > 363 {
		t.Errorf("%+v, %+v", s, st)
	}
}

// Q1: a program that may not be, whatever else is wrong.
func TestWrongProgram(t *testing.T) {
	good := counting(3)
	short, far := counting(3), counting(3)
	short.Funs[0].Code = short.Funs[0].Code[:7]
	far.Funs[0].Code[3].A = 10
	for _, p := range []api.Code{{}, {Main: -1, Funs: good.Funs}, {Main: 1, Funs: good.Funs}, {Main: 2, Funs: good.Funs}, short, far} {
		for _, y := range []api.Policy{{}, policyOf(1), policyOf(-1), {Hot: 1, Most: 401, Cache: 21, Tries: 101}} {
			for _, fuel := range []int{-1, 0, 10, 60000, 60001} {
				if s, st, code := jit.Run(p, y, fuel); code != api.ErrForm || !isZero(s) || st != (api.Stats{}) {
					t.Errorf("Run(%+v, %+v, %d): %+v, %+v, %d", p, y, fuel, s, st, code)
				}
			}
		}
	}
}

// Q1: numbers that are out of range, one at a time, and all that are not.
func TestRange(t *testing.T) {
	p := counting(3)
	asks := func(y api.Policy, fuel int) {
		t.Helper()
		s, st, code := jit.Run(p, y, fuel)
		switch {
		case may(y, fuel):
			if code != api.OK || fuel > 0 && isZero(s) {
				t.Errorf("Run(%+v, %d): %+v, %d", y, fuel, s, code)
			}
		case code != api.ErrRange, !isZero(s), st != api.Stats{}:
			t.Errorf("Run(%+v, %d): %+v, %+v, %d", y, fuel, s, st, code)
		}
	}
	for _, base := range []api.Policy{policyOf(1), {Hot: 60000, Most: 1}} {
		for _, n := range edges(0, 60000) {
			asks(base, n)
		}
		for _, n := range edges(1, 60000) {
			y := base
			y.Hot = n
			asks(y, 50)
		}
		for _, n := range edges(1, 400) {
			y := base
			y.Most = n
			asks(y, 50)
		}
		for _, n := range edges(0, 20) {
			y := base
			y.Cache = n
			asks(y, 50)
		}
		for _, n := range edges(0, 100) {
			y := base
			y.Tries = n
			asks(y, 50)
		}
	}
	asks(api.Policy{}, 50)
	asks(api.Policy{}, -1)
}

// Q3: a head is tried when its count is y.Hot; at the last CLoop of all there is no round from there.
func TestHot(t *testing.T) {
	for _, hot := range []int{1, 2, 3, 10, 49, 50, 51, 98, 99} {
		want := api.Stats{Kept: 1, Tried: 1, Inside: 4*(100-hot) + 1}
		if s := did(t, counting(100), policyOf(hot), api.MaxFuel, want); s.Last != num(100) {
			t.Errorf("%+v", s)
		}
	}
	did(t, counting(100), policyOf(100), api.MaxFuel, api.Stats{Tried: 1})
	for _, hot := range []int{101, 102, 1000, api.MaxFuel} {
		did(t, counting(100), policyOf(hot), api.MaxFuel, api.Stats{})
	}
}

// Q2, Q3: a trace is run where there is fuel for one of its rounds, and a head is tried even as the fuel ends.
func TestFuel(t *testing.T) {
	for fuel := range 410 {
		want := api.Stats{}
		if fuel >= 43 {
			want = api.Stats{Kept: 1, Tried: 1, Inside: min(fuel-43, 360) / 4 * 4}
		}
		if fuel >= 407 { // room for one round more, of which there is one step
			want.Inside = 361
		}
		if s := did(t, counting(100), policyOf(10), fuel, want); s.Steps != min(fuel, 406) {
			t.Errorf("%d: %d steps", fuel, s.Steps)
		}
	}
}

// Q3: where no round is plain, a head is tried each time that it is hot, y.Tries times at most.
func TestTries(t *testing.T) {
	p := counting(150, calling()...)
	for _, hot := range []int{1, 2, 7, 10, 75, 76, 150, 151} {
		for _, tries := range []int{0, 1, 2, 3, 20, 99, 100} {
			y := policyOf(hot)
			y.Tries = tries
			did(t, p, y, api.MaxFuel, api.Stats{Tried: min(tries, 150/hot)})
		}
	}
}

// Q3: a head that was tried in vain may be tried again: the first twenty rounds call.
func TestTriedAgain(t *testing.T) {
	body := append([]api.Instr{order(api.CConst, 6, 5), order(opLess, 7, 0, 6), order(api.CTest, 7, 10)}, calling()...)
	p := counting(60, body...)
	for _, row := range []struct{ hot, tries, tried, kept, inside int }{
		{5, 100, 4, 1, 40*7 + 1}, {5, 4, 4, 1, 40*7 + 1}, {5, 3, 3, 0, 0}, {1, 100, 20, 1, 40*7 + 1}, {1, 20, 20, 1, 40*7 + 1}, {1, 19, 19, 0, 0},
		{19, 2, 2, 1, 22*7 + 1}, {19, 1, 1, 0, 0}, {20, 1, 1, 1, 40*7 + 1}, {60, 1, 1, 0, 0}, {61, 9, 0, 0, 0}, {5, 0, 0, 0, 0},
	} {
		y := policyOf(row.hot)
		y.Tries = row.tries
		did(t, p, y, api.MaxFuel, api.Stats{Kept: row.kept, Tried: row.tried, Inside: row.inside})
	}
}

// Q3: rounds are recorded with y.Most: those of up to a fourth as many steps are.
func TestMost(t *testing.T) {
	for _, more := range []int{0, 1, 5, 40, 95, 96, 97, 120} {
		var body []api.Instr
		for range more {
			body = append(body, order(api.CMove, 4, 5))
		}
		p, round := counting(50, body...), 4+more
		for _, most := range []int{1, 3, 15, 16, 17, 20, 36, 176, 395, 396, 399, 400} {
			y := policyOf(5)
			y.Most = most
			if _, st := runs(t, p, y, api.MaxFuel); 4*round <= most && (st != api.Stats{Kept: 1, Tried: 1, Inside: 45*round + 1}) {
				t.Errorf("rounds of %d steps with %d: %+v", round, most, st)
			}
		}
	}
	y := policyOf(5)
	y.Most = 3
	did(t, counting(50), y, api.MaxFuel, api.Stats{Tried: 10})
}

// row is a program of so many loops, one behind the other, each of which goes round ten times.
func row(loops int) api.Code {
	text := "function main() local n = 0; "
	for range loops {
		text += "for i = 1, 11 do n = n + 1; end "
	}
	p, _ := compile.Make(text + "return n; end")
	return p
}

// Q3, Q4: as many traces are kept as the policy says, at most; nothing is tried where that is none.
func TestCache(t *testing.T) {
	for _, loops := range []int{1, 2, 5, 19, 20, 21, 30} {
		for _, cache := range []int{0, 1, 2, 5, 19, 20} {
			y := policyOf(4)
			y.Cache = cache
			s, st := runs(t, row(loops), y, api.MaxFuel)
			want := api.Stats{Kept: min(loops, cache), Tried: loops, Inside: st.Inside}
			if cache == 0 {
				want = api.Stats{}
			}
			if st != want || s.Last != num(int64(11*loops)) || cache > 0 && st.Inside < s.Steps/2 {
				t.Errorf("%d loops, with %d: %+v of %d steps", loops, cache, st, s.Steps)
			}
		}
	}
}

// turns is a program that goes round two loops in turn; a call makes that no round of the outer one is plain.
func turns(rounds string) api.Code {
	p, _ := compile.Make(strings.ReplaceAll("function main() local n = 0; local i = 0; while i < ROUNDS do i = i + f(); local a = 0; while a < 6 do a = a + 1; n = n + a; end local b = 0; while b < 6 do b = b + 1; n = n - i; end end return n; end function f() return 1; end", "ROUNDS", rounds))
	return p
}

// Q3: with room for one trace the other one is dropped each time, and its head tried again, y.Tries times at most; with room for two none is dropped.
func TestDropped(t *testing.T) {
	const rounds = 30
	p := turns("30")
	for _, tries := range []int{1, 2, 3, 10, 29, 30, 31, 100} {
		y := policyOf(3)
		y.Cache, y.Tries = 1, tries
		// Each inner head is hot at its third CLoop of every turn: the trace then does the rest.
		outer := min(tries, rounds/3)
		_, st := runs(t, p, y, api.MaxFuel)
		if want := outer + 2*min(tries, rounds); st.Kept != 1 || tries <= rounds && st.Tried != want {
			t.Errorf("with %d: %+v, want %d", tries, st, want)
		}
		y.Cache = 2
		if _, two := runs(t, p, y, api.MaxFuel); two.Kept != 2 || two.Tried != outer+2 || tries < 5 && two.Inside <= st.Inside {
			t.Errorf("with %d, and room: %+v", tries, two)
		}
	}
}

// Q3: which trace is dropped is not said, but it is another one than that which is kept then.
func TestNewestKept(t *testing.T) {
	for cache := 1; cache <= 20; cache++ {
		y := policyOf(4)
		y.Cache = cache
		if _, st := runs(t, row(30), y, api.MaxFuel); st.Inside < 30*6*5 {
			t.Errorf("with %d: %+v", cache, st)
		}
	}
}

// called is a program whose main calls, so often, a function with a loop that goes round eight times from its first order on.
func called(times int) api.Code {
	p := counting(times, order(api.CConst, 4, 3), order(api.CConst, 5, 6), order(api.CConst, 6, 0), order(api.CMove, 7, 1), order(api.CCall, 8, 4, 3))
	p.Funs[0].Consts = append(p.Funs[0].Consts, num(8))
	p.Funs[1] = api.Fn{Params: 3, Regs: 4, Code: []api.Instr{
		order(opLess, 3, 1, 0), order(api.CTest, 3, 4), order(opSub, 0, 0, 2), order(api.CLoop, 0), order(api.CReturn, 0),
	}}
	return p
}

// Q3: a trace is run wherever its head comes, also where a call begins there.
func TestCalled(t *testing.T) {
	for times := 1; times <= 20; times++ {
		y := policyOf(5)
		did(t, called(times), y, api.MaxFuel, api.Stats{Kept: 1, Tried: 1 + times/5, Inside: 3*4 + 1 + (times-1)*(8*4+1)})
	}
}

// Q3: the count of a head grows from call to call, also in those that have not come back.
func TestCountedInAll(t *testing.T) {
	p, _ := compile.Make("function main() return f(10); end function f(n) local i = 0; while i < 3 do i = i + 1; end if 0 < n then return n + f(n - 1); end return 0; end")
	for hot := 1; hot <= 40; hot++ {
		s, st := runs(t, p, policyOf(hot), api.MaxFuel)
		tried := 0
		if hot <= 33 {
			tried = 1
		}
		if s.Last != num(55) || hot%3 != 0 && (st.Tried != tried || st.Kept != tried) {
			t.Errorf("%d: %+v, %+v", hot, s, st)
		}
	}
}

// Q3: heads at the same place of two functions are two.
func TestTwoFunctions(t *testing.T) {
	p, _ := compile.Make("function main() return f() + g(); end function f() local i = 0; while i < 8 do i = i + 1; end return i; end function g() local i = 0; while i < 8 do i = i + 2; end return i; end")
	for hot, want := range map[int]api.Stats{1: {Kept: 2, Tried: 2}, 3: {Kept: 2, Tried: 2}, 5: {Kept: 1, Tried: 1}, 7: {Kept: 1, Tried: 1}, 9: {}, 10: {}, 12: {}} {
		s, st := runs(t, p, policyOf(hot), api.MaxFuel)
		if s.Last != num(16) || st.Kept != want.Kept || st.Tried != want.Tried {
			t.Errorf("%d: %+v, want %+v", hot, st, want)
		}
	}
}

// Q3: a head has one count, however many CLoops go on there; in every other round it is another one.
func TestTwoLoops(t *testing.T) {
	p := counting(100, order(opNot, 4, 4), order(api.CTest, 4, 10), order(opAdd, 0, 0, 1), order(api.CLoop, 3), order(api.CNew, 9))
	for hot := 1; hot <= 99; hot++ {
		_, st := runs(t, p, policyOf(hot), api.MaxFuel)
		if st.Tried != 1 || st.Kept != 1 || st.Inside < 6*((100-hot)/2) {
			t.Errorf("%d: %+v", hot, st)
		}
	}
}

// Q3: only a CLoop makes a head: a loop that goes on by a CJump has none.
func TestJump(t *testing.T) {
	p := counting(100)
	p.Funs[0].Code[6].Op = api.CJump
	did(t, p, policyOf(1), api.MaxFuel, api.Stats{})
}

// Q3: an order that is a head may be come to by others than a CLoop: the trace of it is run there, too.
func TestOtherWays(t *testing.T) {
	p := counting(60, order(api.CConst, 6, 5), order(opLess, 7, 0, 6), order(api.CTest, 7, 10), order(opAdd, 0, 0, 1), order(api.CLoop, 3))
	p.Funs[0].Code[11].Op = api.CJump
	// From the twentieth round on a CJump goes on at the head: the trace does what is ahead of the test.
	did(t, p, policyOf(3), api.MaxFuel, api.Stats{Kept: 1, Tried: 1, Inside: 17*7 + 40*4 + 1})
}

// Q2, Q3: a trace that is left ahead of its first step does nothing; the machine gets on all the same.
func TestLeftAtOnce(t *testing.T) {
	p := api.Code{Funs: []api.Fn{{Regs: 1, Code: []api.Instr{
		order(api.CTest, 0, 3), order(opNot, 0, 0), order(api.CLoop, 0), order(opNot, 0, 0), order(api.CLoop, 0),
	}}}}
	for fuel := range 100 {
		want := api.Stats{}
		if fuel >= 3 {
			want = api.Stats{Kept: 1, Tried: 1, Inside: fuel / 6 * 3}
		}
		did(t, p, policyOf(1), fuel, want)
	}
}

// Q2: the longest run, in which a trace is run and left thousands of times, with ever more told, and full tables; and a head that is tried as often as may be, in vain.
func TestGreat(t *testing.T) {
	fill := "local t = {}; local u = t; for a = 1, 60 do local v = {}; v[1] = u; for b = 2, 100 do v[b] = b; end u = v; end "
	for _, loop := range []string{
		"while true do i = i + 1; if i % 2 == 0 then emit i; else emit \"odd\"; end end",
		"while true do i = i + 1; u[i % 100 + 1] = i; if i % 2 == 0 then emit i; end end",
		"while true do i = i + f(i); emit i; end",
	} {
		p, fault := compile.Make("function main() " + fill + "local i = 0; " + loop + " end function f(a) return 1; end")
		if fault.Code != api.OK {
			t.Fatalf("%q: %+v", loop, fault)
		}
		for _, y := range []api.Policy{policyOf(1), policyOf(7), {Hot: 1, Most: api.MaxIns, Cache: 1, Tries: 100}} {
			if s, st := unseen(t, p, y, api.MaxFuel); s.Steps != api.MaxFuel || len(s.Tables) != 61 || len(s.Out) == 0 || st.Tried == 0 {
				t.Errorf("%q: %+v", loop, st)
			}
		}
	}
}

// Q2: a loop of one step, for ever.
func TestOneStep(t *testing.T) {
	p := api.Code{Funs: []api.Fn{{Regs: 1, Code: []api.Instr{order(api.CLoop)}}}}
	for _, hot := range []int{1, 2, 1000, 59999, 60000} {
		for _, fuel := range []int{0, 1, 2, 999, 1000, 1001, 59999, 60000} {
			want := api.Stats{}
			if fuel >= hot {
				want = api.Stats{Kept: 1, Tried: 1, Inside: fuel - hot}
			}
			if s := did(t, p, policyOf(hot), fuel, want); s.Steps != fuel {
				t.Errorf("%d: %d steps", fuel, s.Steps)
			}
		}
	}
}

// Q2: a step that fails within a loop that is traced, with what was done up to it.
func TestFails(t *testing.T) {
	for _, row := range []struct {
		body []api.Instr
		err  api.Errno
		last int // the round that fails, from 0 on
	}{
		{[]api.Instr{order(api.CNew, 4)}, api.ErrSize, 200},
		{[]api.Instr{order(api.CConst, 4, 5), order(opSub, 4, 4, 0), order(api.CEmit, 4), order(opDiv, 5, 1, 4)}, api.ErrZero, 20},
		{[]api.Instr{order(api.CConst, 4, 5), order(opSub, 4, 4, 0), order(api.CEmit, 4), order(opMod, 5, 1, 4)}, api.ErrZero, 20},
		{[]api.Instr{order(api.CEmit, 5), order(api.COp+api.OpCat, 6, 7, 0)}, api.ErrKind, 0},
		{[]api.Instr{order(api.CTest, 4, 8), order(api.CSet, 4, 0, 1), order(api.CJump, 9), order(api.CNew, 4)}, api.ErrSize, 101},
		{[]api.Instr{order(api.CNew, 9), order(api.CConst, 5, 5), order(opSame, 6, 0, 5), order(api.CTest, 6, 10), order(api.CGet, 4, 1, 1)}, api.ErrKind, 20},
		{[]api.Instr{order(api.CNew, 9), order(api.CConst, 5, 5), order(opSame, 6, 0, 5), order(api.CTest, 6, 10), order(api.CNext, 4, 9, 1)}, api.ErrName, 20},
	} {
		for _, hot := range []int{1, 3, 15, 1000} {
			s, _ := runs(t, counting(300, row.body...), policyOf(hot), api.MaxFuel)
			if s.End != api.EndFailed || s.Err != row.err || s.Frames[0].Regs[0] != num(int64(row.last)) {
				t.Errorf("%v: %+v", row.body, s)
			}
			for fuel := s.Steps - 12; fuel < s.Steps+3; fuel++ {
				if fuel >= 0 {
					runs(t, counting(300, row.body...), policyOf(hot), fuel)
				}
			}
		}
	}
}

// Q2: programs whose loops change tables and texts, go through keys, take other ways, and are one within the other.
func TestTexts(t *testing.T) {
	for text, last := range map[string]api.Value{
		`while i < 60 do i = i + 1; t[1 + i % 7] = i; n = n + (t[1] or 0); end return n + #t;`:                                                            num(1659),
		`while i < 90 do i = i + 1; if i % 3 == 0 then n = n + 1; t[i] = n; else n = n - i; emit n; end end return n;`:                                    num(-2670),
		`for a = 1, 12 do for b = 1, 12 do n = n + a * b; end t[a] = n; end local k = next(t, nil); while k do n = n + k; k = next(t, k); end return n;`:  num(6162),
		`for a = 1, 40 do t["k" .. a % 9] = a; t["k" .. a % 4] = nil; end local k = next(t, nil); while k do s = s .. k; k = next(t, k); end return s;`:   text("k4k5k6k7k8"),
		`while i < 50 do i = i + 1; s = s .. i % 10; if #s == 7 then emit s; s = ""; end end return s;`:                                                   text("0"),
		`while i < 30 do i = i + 1; local u = {}; u[1] = i; u[2] = u; t[i] = u; n = n + t[i][2][1]; end return n + #t;`:                                   num(495),
		`while i < 80 do i = i + 1; if i == 41 then n = "x"; end if not (n == "x") then n = n + 1; end end return n;`:                                     text("x"),
		`for a = 1, 9 do local j = 0; while j < a do j = j + 1; if j % 2 == 0 then n = n + f(j); else n = n + 1; end end end return n;`:                   num(265),
		`while true do i = i + 1; if i == 70 then return i; end t[1] = i; t[2] = t[1]; n = t[2]; end`:                                                     num(70),
		`while i < 3 do i = i + 1; local j = 0; while j < 30 do j = j + 1; local m = 0; while m < 3 do m = m + 1; n = n + m; end end end return n .. "";`: text("540"),
	} {
		p, fault := compile.Make("function main() local t = {}; local s = \"\"; local i = 0; local n = 0; " + text + " end function f(a) local r = 0; for b = 1, a do r = r + b; end return r * 1; end")
		if fault.Code != api.OK {
			t.Fatalf("%q: %+v", text, fault)
		}
		for _, y := range []api.Policy{policyOf(1), policyOf(2), policyOf(5), {Hot: 2, Most: 400, Cache: 1, Tries: 100}, {Hot: 1, Most: 60, Cache: 2, Tries: 9}} {
			s, st := runs(t, p, y, 20000)
			if s.End != api.EndDone || s.Last != last || st.Inside == 0 && y.Most == 400 {
				t.Errorf("%q: %+v, %+v", text, s, st)
			}
			for fuel := 0; fuel < s.Steps; fuel += 7 {
				unseen(t, p, y, fuel)
			}
		}
	}
}
