package code_test

import (
	"math"
	"strconv"
	"testing"

	"packtrail/api"
	"packtrail/code"
	"packtrail/sample"
	"packtrail/value"
)

// back is the last order of most programs here.
var back = api.Instr{Op: api.CReturn}

// fun is a function of five parameters and eight registers, three constants, and these orders with a CReturn behind them.
func fun(orders ...api.Instr) api.Fn {
	return api.Fn{Params: 5, Regs: 8, Consts: make([]api.Value, 3), Code: append(orders, back)}
}

// with is a program of a main and that function.
func with(f api.Fn) api.Code {
	return api.Code{Funs: []api.Fn{f, {Regs: 1, Code: []api.Instr{back}}}, Main: 1}
}

// may holds May of a program against what is wanted.
func may(t *testing.T, what string, p api.Code, want bool) {
	t.Helper()
	if code.May(p) != want {
		t.Errorf("%s: May is %v", what, !want)
	}
}

// G1: from 1 to MaxFuns functions.
func TestFunctions(t *testing.T) {
	for n := range api.MaxFuns + 3 {
		p := api.Code{}
		for range n {
			p.Funs = append(p.Funs, api.Fn{Regs: 1, Code: []api.Instr{back}})
		}
		may(t, strconv.Itoa(n)+" functions", p, n >= 1 && n <= api.MaxFuns)
	}
	may(t, "an empty list", api.Code{Funs: []api.Fn{}}, false)
}

// G1: Main is the number of a function with no parameters; others may have some.
func TestMainIsOne(t *testing.T) {
	for _, main := range []int{math.MinInt, -1, 0, 1, 2, math.MaxInt} {
		p := with(fun())
		p.Main = main
		may(t, "Main", p, main == 1)
	}
	p := with(fun())
	p.Main, p.Funs[0].Params = 0, 0
	may(t, "Main is the first", p, true)
}

// G1: Params from 0 to MaxParams, Regs from 1 to MaxRegs and not below Params.
func TestHead(t *testing.T) {
	for _, params := range []int{math.MinInt, -1, 0, 1, 4, 5, 6, math.MaxInt} {
		for _, regs := range []int{math.MinInt, -1, 0, 1, 3, 4, 5, 6, 249, 250, 251, math.MaxInt} {
			f := api.Fn{Params: params, Regs: regs, Code: []api.Instr{back}}
			want := params >= 0 && params <= 5 && regs >= 1 && regs <= 250 && regs >= params
			may(t, "Params and Regs", with(f), want)
		}
	}
}

// G1: each function is asked, not the first or the last alone.
func TestEachFunction(t *testing.T) {
	for i := range 3 {
		good := api.Fn{Regs: 1, Code: []api.Instr{back}}
		p := api.Code{Funs: []api.Fn{good, good, good}}
		may(t, "three", p, true)
		p.Funs[i].Regs = 251
		may(t, "one of three", p, false)
	}
}

// G1: at most MaxConsts constants.
func TestManyConsts(t *testing.T) {
	for _, n := range []int{0, 1, 699, 700, 701, 2000} {
		f := fun()
		f.Consts = make([]api.Value, n)
		may(t, "constants", with(f), n <= 700)
	}
}

// G1: a constant is a value that may be, no table, and a function only if there is one of that number.
func TestConsts(t *testing.T) {
	for place := range 3 {
		ask := func(v api.Value, want bool) {
			t.Helper()
			f := fun()
			f.Consts[place] = v
			may(t, "a constant "+value.Text(v), with(f), want)
		}
		for _, v := range sample.Good() {
			ask(v, v.Kind != api.VTable && (v.Kind != api.VFun || v.N < 2))
		}
		for _, v := range sample.Bad() {
			ask(v, false)
		}
		ask(sample.Fun(1), true)
		ask(sample.Fun(2), false)
		ask(sample.Fun(1<<32), false)
	}
}

// G1: from 1 to MaxCode orders.
func TestManyOrders(t *testing.T) {
	for _, n := range []int{0, 1, 2, 2999, 3000, 3001, 5000} {
		f := fun()
		f.Code = make([]api.Instr, n)
		for i := range f.Code {
			f.Code[i] = back
		}
		may(t, "orders", with(f), n >= 1 && n <= 3000)
	}
}

// G1: the last order is a CReturn, CJump or CLoop.
func TestLast(t *testing.T) {
	for op := -1; op <= 43; op++ {
		f := fun(api.Instr{Op: api.CNew})
		f.Code[1].Op = op
		may(t, "the last", with(f), op == api.CReturn || op == api.CJump || op == api.CLoop)
	}
}

// orders are orders of fun(one, CReturn) at the edges that the table names; those with no mark may be.
var orders = []struct {
	order api.Instr
	wrong bool
}{
	{api.Instr{Op: api.CMove, A: 7, B: 7}, false},
	{api.Instr{Op: api.CMove, A: 8, B: 7}, true},
	{api.Instr{Op: api.CMove, A: 7, B: 8}, true},
	{api.Instr{Op: api.CMove, A: -1}, true},
	{api.Instr{Op: api.CMove, C: 1}, true},
	{api.Instr{Op: api.CLen, A: 7, B: 7}, false},
	{api.Instr{Op: api.CLen, B: 8}, true},
	{api.Instr{Op: api.CLen, C: 1}, true},
	{api.Instr{Op: api.CConst, A: 7, B: 2}, false},
	{api.Instr{Op: api.CConst, B: 3}, true},
	{api.Instr{Op: api.CConst, B: -1}, true},
	{api.Instr{Op: api.CConst, C: -1}, true},
	{api.Instr{Op: api.CNew, A: 7}, false},
	{api.Instr{Op: api.CNew, A: 8}, true},
	{api.Instr{Op: api.CNew, B: 1}, true},
	{api.Instr{Op: api.CReturn, A: 7}, false},
	{api.Instr{Op: api.CReturn, C: 1}, true},
	{api.Instr{Op: api.CEmit, A: 7}, false},
	{api.Instr{Op: api.CEmit, A: 7, B: 1}, true},
	{api.Instr{Op: api.CGet, A: 7, B: 7, C: 7}, false},
	{api.Instr{Op: api.CGet, C: 8}, true},
	{api.Instr{Op: api.CSet, A: 7, B: 7, C: 7}, false},
	{api.Instr{Op: api.CSet, B: 8}, true},
	{api.Instr{Op: api.CNext, A: 7, B: 7, C: 7}, false},
	{api.Instr{Op: api.CNext, C: -1}, true},
	{api.Instr{Op: api.CJump, A: 0}, false},
	{api.Instr{Op: api.CJump, A: 1}, false},
	{api.Instr{Op: api.CJump, A: 2}, true},
	{api.Instr{Op: api.CJump, A: -1}, true},
	{api.Instr{Op: api.CJump, B: 1}, true},
	{api.Instr{Op: api.CTest, A: 7, B: 1}, false},
	{api.Instr{Op: api.CTest, A: 8, B: 1}, true},
	{api.Instr{Op: api.CTest, A: 7, B: 2}, true},
	{api.Instr{Op: api.CTest, C: 1}, true},
	{api.Instr{Op: api.CLoop, A: 0}, false},
	{api.Instr{Op: api.CLoop, A: 1}, true},
	{api.Instr{Op: api.CLoop, A: -1}, true},
	{api.Instr{Op: api.CLoop, C: 1}, true},
	{api.Instr{Op: api.CCall, A: 7, B: 2, C: 5}, false},
	{api.Instr{Op: api.CCall, A: 7, B: 7, C: 0}, false},
	{api.Instr{Op: api.CCall, A: 7, B: 0, C: 5}, false},
	{api.Instr{Op: api.CCall, A: 7, B: 0, C: 6}, true},
	{api.Instr{Op: api.CCall, A: 7, B: 0, C: -1}, true},
	{api.Instr{Op: api.CCall, A: 7, B: 3, C: 5}, true},
	{api.Instr{Op: api.CCall, A: 7, B: 7, C: 1}, true},
	{api.Instr{Op: api.CCall, A: 7, B: 8, C: 0}, true},
	{api.Instr{Op: api.CCall, A: 7, B: -1, C: 1}, true},
	{api.Instr{Op: api.CCall, A: 8, B: 2, C: 5}, true},
	{api.Instr{Op: api.CCall, A: 7, B: math.MaxInt, C: 5}, true},
	{api.Instr{Op: api.COp + api.OpAdd, A: 7, B: 7, C: 7}, false},
	{api.Instr{Op: api.COp + api.OpMost, A: 7, B: 7, C: 7}, false},
	{api.Instr{Op: api.COp + api.OpMost, A: 7, B: 7, C: 8}, true},
	{api.Instr{Op: api.COp + api.OpNot, A: 7, B: 7}, false},
	{api.Instr{Op: api.COp + api.OpNot, A: 7, B: 8}, true},
	{api.Instr{Op: api.COp + api.OpNot, C: 1}, true},
	{api.Instr{Op: api.COp + api.OpNeg, A: 7, B: 7}, false},
	{api.Instr{Op: api.COp + api.OpNeg, C: 1}, true},
	{api.Instr{Op: 0}, true},
	{api.Instr{Op: api.CEmit + 1}, true},
	{api.Instr{Op: api.COp}, true},
	{api.Instr{Op: api.COp - 1}, true},
	{api.Instr{Op: api.COp + api.OpNeg + 1}, true},
	{api.Instr{Op: api.COp + api.OpAnd}, true},
	{api.Instr{Op: api.COp + api.OpOr}, true},
	{api.Instr{Op: math.MinInt}, true},
	{api.Instr{Op: math.MaxInt}, true},
}

// G1, G2: each order as the table says.
func TestOrders(t *testing.T) {
	for _, row := range orders {
		p := with(fun(row.order))
		if code.May(p) == row.wrong {
			t.Errorf("May with %v is %v", row.order, row.wrong)
		}
	}
}

// G1: a CLoop goes to its own place or one ahead of it, wherever it stands.
func TestLoop(t *testing.T) {
	for at := range 5 {
		for to := range 7 {
			f := fun(back, back, back, back)
			f.Code[at] = api.Instr{Op: api.CLoop, A: to}
			may(t, "CLoop", with(f), to <= at)
		}
	}
}

// G1: a register, a constant and an order are those of the order's own function.
func TestOwn(t *testing.T) {
	big := fun(back, back)
	for _, order := range []api.Instr{{Op: api.CMove, A: 1}, {Op: api.CConst}, {Op: api.CJump, A: 2}} {
		p := with(big)
		p.Funs[0].Code[0] = order
		may(t, "in its own", p, true)
		p.Funs[0].Code[0] = back
		p.Funs[1].Code = []api.Instr{order, back}
		may(t, "in another one", p, false)
	}
}
