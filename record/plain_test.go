package record_test

import (
	"math"
	"slices"
	"testing"
	"unsafe"

	"packtrail/api"
	"packtrail/compile"
	"packtrail/machine"
	"packtrail/record"
	"packtrail/sample"
	"packtrail/trace"
)

// round tells how many steps the round of a state takes, by single steps of the machine; 0, if it is not plain, or does not end in many.
func round(p api.Code, s api.State) int {
	s = sample.Copy(s)
	s.Out, s.Steps = nil, 0
	last := len(s.Frames) - 1
	head := s.Frames[last].PC
	for steps := 1; steps <= 300; steps++ {
		f := s.Frames[last]
		if op := p.Funs[f.Fun].Code[f.PC].Op; op == api.CCall || op == api.CReturn {
			return 0
		}
		s, _ = machine.Go(p, s, steps)
		if s.End != api.EndFuel {
			return 0
		}
		if s.Frames[last].PC == head {
			return steps
		}
	}
	return 0
}

func isZero(r api.Trace) bool {
	return r.Fun == 0 && r.Head == 0 && len(r.Ins) == 0 && len(r.Snaps) == 0
}

// holds asks Of at a state that goes on, with a most in its range, and holds the answer against K1, K2 and K4, and from the state itself against K3.
func holds(t *testing.T, p api.Code, s api.State, most int) (api.Trace, bool) {
	t.Helper()
	r, ok := record.Of(p, s, most)
	steps := round(p, s)
	if !ok {
		if steps != 0 && 4*steps <= most || !isZero(r) {
			t.Fatalf("Of(%+v, %+v, %d): %+v, false; the round takes %d steps", p, s, most, r, steps)
		}
		return r, false
	}
	f := s.Frames[len(s.Frames)-1]
	if steps == 0 || !trace.May(p, r) || r.Fun != f.Fun || r.Head != f.PC || len(r.Ins) > most || r.Snaps[len(r.Snaps)-1].Steps != steps {
		t.Fatalf("Of(%+v, %+v, %d): %+v; the round takes %d steps", p, s, most, r, steps)
	}
	for _, fuel := range []int{0, s.Steps - 1, s.Steps, s.Steps + steps - 1, s.Steps + steps, s.Steps + steps + 1, s.Steps + 3*steps} {
		if fuel < 0 || fuel > api.MaxFuel {
			continue
		}
		if got := likeMachine(t, p, r, s, fuel); fuel == s.Steps+steps && got.Steps != fuel {
			t.Fatalf("the round of %+v, %+v was not done: %+v: %+v", p, s, r, got)
		}
	}
	return r, true
}

// likeMachine holds what a trace does against what the machine does in as many steps.
func likeMachine(t *testing.T, p api.Code, r api.Trace, s api.State, fuel int) api.State {
	t.Helper()
	got, code := trace.Run(p, r, s, fuel)
	want, other := machine.Go(p, s, got.Steps)
	if code != api.OK || other != api.OK || !sample.Same(got, want) {
		t.Fatalf("%+v of %+v\nfrom %+v\nwith %d: %+v, %d;\nthe machine: %+v, %d", r, p, s, fuel, got, code, want, other)
	}
	return got
}

// near are states that differ a little from one: in a register, in what is in the tables, or in how many of them there are.
func near(p api.Code, s api.State, number int) (list []api.State) {
	tried := []api.Value{none, no, yes, num(0), num(1), num(-3), num(math.MaxInt64), text(""), text("a"), text(sample.Longest()), fun(int64(len(p.Funs) - 1))}
	if many := len(s.Tables); many > 0 {
		tried = append(tried, tab(0), tab(int64(many-1)))
	}
	last := len(s.Frames) - 1
	for reg := range s.Frames[last].Regs {
		for i := range 3 {
			one := sample.Copy(s)
			one.Frames[last].Regs[reg] = tried[(number+reg+5*i)%len(tried)]
			list = append(list, one)
		}
	}
	empty, full, many := sample.Copy(s), sample.Copy(s), sample.Copy(s)
	for i := range s.Tables {
		empty.Tables[i] = api.Table{}
		for k := int64(1); len(full.Tables[i].Keys) < api.MaxKeys; k++ {
			if !slices.Contains(full.Tables[i].Keys, num(k)) {
				full.Tables[i].Keys, full.Tables[i].Vals = append(full.Tables[i].Keys, num(k)), append(full.Tables[i].Vals, yes)
			}
		}
	}
	many.Tables = append(many.Tables, make([]api.Table, api.MaxTables-len(s.Tables))...)
	return append(list, empty, full, many)
}

// likeMachineNear runs a trace from states that are near to one, for some rounds; it answers the orders at which it was left.
func likeMachineNear(t *testing.T, p api.Code, r api.Trace, s api.State, number int) (left []int) {
	t.Helper()
	round := r.Snaps[len(r.Snaps)-1].Steps
	states := append(near(p, s, number), sample.StateAt(p, r.Fun, r.Head, number), sample.StateAt(p, r.Fun, r.Head, number+1))
	for i, one := range states {
		fuel := min(api.MaxFuel, one.Steps+(1+i%3)*round+i%2)
		got := likeMachine(t, p, r, one, fuel)
		if got.Steps+round <= fuel {
			left = append(left, p.Funs[r.Fun].Code[got.Frames[len(got.Frames)-1].PC].Op)
		}
	}
	return left
}

// readsOnce tells whether no two orders read the same register.
func readsOnce(r api.Trace) bool {
	read := map[int]int{}
	for _, o := range r.Ins {
		if o.Op == api.TReg {
			read[o.X]++
		}
		if read[o.X] > 1 {
			return false
		}
	}
	return true
}

// K1 to K4: rounds by a fixed rule, all of which are plain; each order that can leaves some of them.
func TestByRule(t *testing.T) {
	left, done := map[int]int{}, map[int]int{}
	for number := range 700 {
		p, s, steps := sample.Round(number)
		if n := round(p, s); n != steps {
			t.Fatalf("%+v, %+v: %d steps, not %d", p, s, n, steps)
		}
		for most := 4*steps - 1; most <= 4*steps+number%5; most++ {
			holds(t, p, s, min(most, api.MaxIns))
		}
		r, ok := holds(t, p, s, api.MaxIns)
		if !ok {
			t.Fatalf("not recorded: %+v, %+v", p, s)
		}
		if !readsOnce(r) {
			t.Fatalf("a register is read twice: %+v", r)
		}
		for _, o := range p.Funs[r.Fun].Code {
			done[o.Op]++
		}
		for _, op := range likeMachineNear(t, p, r, s, number) {
			left[op]++
		}
	}
	for op := api.CMove; op <= api.COp+api.OpNeg; op++ {
		inRounds := op < api.CCall || op == api.CEmit || op > api.COp
		if inRounds && done[op] < 50 {
			t.Errorf("the order %d is in %d programs only", op, done[op])
		}
	}
	for _, op := range []int{api.CNew, api.CGet, api.CSet, api.CLen, api.CNext, api.CTest, api.COp + api.OpAdd, api.COp + api.OpDiv, api.COp + api.OpCat, api.COp + api.OpLess, api.COp + api.OpMost, api.COp + api.OpNeg} {
		if left[op] < 10 {
			t.Errorf("the order %d leaves %d traces only", op, left[op])
		}
	}
}

// K1 to K4: programs by a fixed rule, from states by a fixed rule; most of these rounds are not plain.
func TestAnyState(t *testing.T) {
	found := map[bool]int{}
	for number := range 1000 {
		p := sample.Code(number)
		for i := range 3 {
			s := sample.State(p, 3*number+i)
			r, ok := holds(t, p, s, 1+(7*number+131*i)%api.MaxIns)
			found[ok]++
			if ok {
				likeMachineNear(t, p, r, s, number)
			}
		}
	}
	if found[true] < 200 || found[false] < 200 {
		t.Errorf("too few of one kind: %v", found)
	}
}

// head is where a trace begins.
type head struct{ fun, pc int }

// K1 to K4: programs by a fixed rule, compiled; at each step the round is asked for, and the traces of the same head are run that were recorded last.
func TestPrograms(t *testing.T) {
	recorded, rounds, left := 0, 0, 0
	for number := range 300 {
		p, fault := compile.Make(sample.Program(number))
		if fault.Code != api.OK {
			continue
		}
		kept := map[head]api.Trace{}
		s, _ := machine.Begin(p)
		for s.End == api.EndFuel && s.Steps < 150 {
			f := s.Frames[len(s.Frames)-1]
			at := head{f.Fun, f.PC}
			if r, is := kept[at]; is {
				end := r.Snaps[len(r.Snaps)-1].Steps
				if got := likeMachine(t, p, r, s, s.Steps+3*end); got.Steps+end > s.Steps+3*end {
					rounds++
				} else {
					left++
				}
			}
			if r, ok := holds(t, p, s, api.MaxIns); ok {
				kept[at] = r
				recorded++
			}
			s, _ = machine.Go(p, s, s.Steps+1)
		}
	}
	if recorded < 1000 || rounds < 1000 || left < 300 {
		t.Errorf("too few: %d recorded, %d done, %d left", recorded, rounds, left)
	}
}

// K1: a machine whose round is recorded stays where it is, and its trace is that of its state.
func TestFrom(t *testing.T) {
	for number := range 300 {
		p, s, _ := sample.Round(number)
		if number%3 == 0 {
			p = sample.Code(number)
			s = sample.State(p, number)
		}
		for _, most := range []int{1, 7, 20, 100, api.MaxIns} {
			m := machine.New(p, s)
			r, ok := record.From(m, most)
			if want, is := record.Of(p, s, most); ok != is || !sample.SameTrace(r, want) || !sample.Same(m.State, s) {
				t.Fatalf("From(%+v, %+v, %d): %+v, %v; want %+v, %v", p, m.State, most, r, ok, want, is)
			}
		}
	}
}

// sameCode tells whether two programs are the same.
func sameCode(a, b api.Code) bool {
	return a.Main == b.Main && slices.EqualFunc(a.Funs, b.Funs, func(a, b api.Fn) bool {
		return a.Params == b.Params && a.Regs == b.Regs && slices.Equal(a.Consts, b.Consts) && slices.Equal(a.Code, b.Code)
	})
}

// P3: what is handed in stays as it is, also behind the lists' lengths, and what is behind these counts for nothing.
func TestNothingChanged(t *testing.T) {
	odd := api.Value{Kind: 99}
	for number := range 300 {
		p, s, _ := sample.Round(number)
		plain, _ := record.Of(p, s, api.MaxIns)
		for i, f := range s.Frames {
			s.Frames[i].Regs = append(f.Regs, odd)[:len(f.Regs)]
		}
		for i, u := range s.Tables {
			s.Tables[i] = api.Table{Keys: append(u.Keys, odd)[:len(u.Keys)], Vals: append(u.Vals, odd)[:len(u.Vals)]}
		}
		s.Frames = append(s.Frames, api.Frame{Fun: 99})[:len(s.Frames)]
		s.Tables = append(s.Tables, api.Table{Keys: []api.Value{odd}})[:len(s.Tables)]
		s.Out = append(s.Out, "behind")[:len(s.Out)]
		for i, f := range p.Funs {
			p.Funs[i].Code = append(f.Code, api.Instr{Op: 99})[:len(f.Code)]
			p.Funs[i].Consts = append(f.Consts, odd)[:len(f.Consts)]
		}
		was := sample.Copy(s)
		r, ok := record.Of(p, s, api.MaxIns)
		if again, _, _ := sample.Round(number); !ok || !sample.SameTrace(r, plain) || !sample.Same(s, was) || !sameCode(p, again) {
			t.Fatalf("changed: %d", number)
		}
		there := s.Out[:len(s.Out)+1][len(s.Out)] == "behind" && len(s.Tables[:len(s.Tables)+1][len(s.Tables)].Keys) == 1 && s.Frames[:len(s.Frames)+1][len(s.Frames)].Fun == 99
		for _, list := range lists(p, s) {
			there = there && list[:len(list)+1][len(list)] == odd
		}
		if !there {
			t.Fatalf("changed behind a length: %d", number)
		}
	}
}

// lists are the lists of values of a program and of a state.
func lists(p api.Code, s api.State) (all [][]api.Value) {
	for _, f := range p.Funs {
		all = append(all, f.Consts)
	}
	for _, f := range s.Frames {
		all = append(all, f.Regs)
	}
	for _, u := range s.Tables {
		all = append(all, u.Keys, u.Vals)
	}
	return all
}

// P3: a trace shares no memory with what was handed in, its texts among it, nor with another trace; and no two of its lists share any.
func TestNothingShared(t *testing.T) {
	texts := 0
	for number := range 300 {
		p, s, _ := sample.Round(number)
		seen := map[unsafe.Pointer]int{}
		for _, list := range lists(p, s) {
			for _, v := range list {
				if v.S != "" {
					seen[unsafe.Pointer(unsafe.StringData(v.S))]++
				}
			}
		}
		fresh := func(many int, at unsafe.Pointer) {
			if many > 0 && seen[at] != 0 {
				t.Fatalf("shared memory: %d", number)
			}
			seen[at]++
		}
		for range 2 {
			r, _ := record.Of(p, s, api.MaxIns)
			fresh(len(r.Ins), unsafe.Pointer(unsafe.SliceData(r.Ins)))
			fresh(len(r.Snaps), unsafe.Pointer(unsafe.SliceData(r.Snaps)))
			for _, snap := range r.Snaps {
				fresh(len(snap.Regs), unsafe.Pointer(unsafe.SliceData(snap.Regs)))
			}
			for _, o := range r.Ins {
				fresh(len(o.V.S), unsafe.Pointer(unsafe.StringData(o.V.S)))
				texts += len(o.V.S)
			}
		}
	}
	if texts == 0 {
		t.Error("no texts were tried")
	}
}

func FuzzOf(f *testing.F) {
	f.Add(1, 2, 30, false)
	f.Add(77, 5, 400, true)
	f.Fuzz(func(t *testing.T, number, state, most int, plain bool) {
		p, s, _ := sample.Round(number)
		if !plain {
			p = sample.Code(number)
			s = sample.State(p, state)
		}
		if r, ok := record.Of(p, s, most); (most < 1 || most > api.MaxIns) && (ok || !isZero(r)) {
			t.Fatalf("Of with %d: %+v", most, r)
		}
		if r, ok := holds(t, p, s, 1+int(uint(most)%api.MaxIns)); ok {
			likeMachineNear(t, p, r, s, state&math.MaxInt32)
		}
	})
}
