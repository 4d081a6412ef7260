package trace_test

import (
	"math"
	"slices"
	"strings"
	"testing"
	"unsafe"

	"packtrail/api"
	"packtrail/machine"
	"packtrail/sample"
	"packtrail/trace"
)

// letters are the document's table, of each order what its fields X, Y, Z, V and Snap are: r a register, o an order ahead, k a kind, v a value, s a snapshot, - nothing; and behind them, whether it has a value.
func letters(op int) string {
	rows := [32]string{
		1: "r----=", 2: "---v-=", 3: "----s=", 4: "oo--s=", 5: "ooo-s", 6: "o---s=", 7: "oo--s=",
		8: "o----", 9: "ok--s", 10: "o---s", 11: "o---s", 30: "o---s=", 31: "o---s=",
	}
	for i := 21; i <= 29; i++ {
		rows[i] = "oo--s="
	}
	if op < 0 || op >= len(rows) {
		return ""
	}
	return rows[op]
}

// has tells whether an order of a number is there, and has a value.
func has(r api.Trace, n int) bool {
	return n >= 0 && n < len(r.Ins) && strings.HasSuffix(letters(r.Ins[n].Op), "=")
}

// plainMay is May of a trace, of a program that may be.
func plainMay(p api.Code, r api.Trace) bool {
	if r.Fun < 0 || r.Fun >= len(p.Funs) || len(r.Ins) > 400 || len(r.Snaps) > 400 || len(r.Snaps) == 0 {
		return false
	}
	f, last := p.Funs[r.Fun], r.Snaps[len(r.Snaps)-1]
	good := r.Head == last.PC && last.Steps > 0
	for _, s := range r.Snaps {
		good = good && s.PC >= 0 && s.PC < len(f.Code) && len(s.Regs) == f.Regs && s.Steps >= 0 && s.Steps <= 60000 && s.Steps <= last.Steps
		for _, n := range s.Regs {
			good = good && (n == -1 || has(r, n))
		}
	}
	for at := range r.Ins {
		good = good && plainOrder(p, r, at)
	}
	return good
}

func plainOrder(p api.Code, r api.Trace, at int) bool {
	o := r.Ins[at]
	row := letters(o.Op)
	if row == "" {
		return false
	}
	for i, n := range []int{o.X, o.Y, o.Z} {
		fits := map[byte]bool{
			'-': n == 0,
			'r': n >= 0 && n < p.Funs[r.Fun].Regs,
			'o': n < at && has(r, n),
			'k': n >= 0 && n <= 5,
		}
		if !fits[row[i]] {
			return false
		}
	}
	if row[3] == '-' && o.V != (api.Value{}) || row[4] == '-' && o.Snap != -1 {
		return false
	}
	if row[3] == 'v' && !constant(p, o.V) {
		return false
	}
	if row[4] == '-' {
		return true
	}
	late := func(n int) bool { return n >= at }
	return o.Snap >= 0 && o.Snap < len(r.Snaps)-1 && !slices.ContainsFunc(r.Snaps[o.Snap].Regs, late)
}

// constant tells whether a value may stand in a state of a program that has no tables.
func constant(p api.Code, v api.Value) bool {
	s := api.State{Frames: []api.Frame{{Fun: p.Main, Regs: make([]api.Value, p.Funs[p.Main].Regs)}}}
	s.Frames[0].Regs[0] = v
	return machine.May(p, s)
}

// byMachine has the machine do one order with three registers, as a function of its own, behind the program's. It answers what is in a fourth one then, and whether nothing failed; the tables and what was told are the state's.
func byMachine(p api.Code, s *api.State, o api.Instr, regs ...api.Value) (api.Value, bool) {
	one := api.Fn{Regs: 4, Code: []api.Instr{o, order(api.CReturn, 0)}}
	alone := api.Code{Main: p.Main, Funs: append(slices.Clone(p.Funs), one)}
	from := api.State{Tables: s.Tables, Frames: []api.Frame{{Fun: len(p.Funs), Regs: append(regs, none)}}}
	got, code := machine.Go(alone, from, 1)
	if code != api.OK {
		panic("byMachine")
	}
	if got.End == api.EndFailed {
		return none, false
	}
	s.Tables, s.Out = got.Tables, append(s.Out, got.Out...)
	return got.Frames[0].Regs[3], true
}

// plainDo does an order of a trace, with what it asks for, as the machine would.
func plainDo(p api.Code, s *api.State, o api.Ins, x, y, z api.Value) (api.Value, bool) {
	twin := map[int]api.Instr{
		api.TNew: order(api.CNew, 3), api.TGet: order(api.CGet, 3, 0, 1), api.TSet: order(api.CSet, 0, 1, 2), api.TLen: order(api.CLen, 3, 0),
		api.TNext: order(api.CNext, 3, 0, 1), api.TEmit: order(api.CEmit, 0), api.TOp + api.OpNot: order(api.COp+api.OpNot, 3, 0), api.TOp + api.OpNeg: order(api.COp+api.OpNeg, 3, 0),
	}
	switch o.Op {
	case api.TReg:
		return s.Frames[len(s.Frames)-1].Regs[o.X], true
	case api.TVal:
		return o.V, true
	case api.TKind:
		return none, x.Kind == o.Y
	case api.TTrue, api.TFalse:
		not, _ := byMachine(p, s, order(api.COp+api.OpNot, 3, 0), x, y, z)
		return none, (not == yes) == (o.Op == api.TFalse)
	}
	if instr, is := twin[o.Op]; is {
		return byMachine(p, s, instr, x, y, z)
	}
	return byMachine(p, s, order(o.Op-api.TOp+api.COp, 3, 0, 1), x, y, z)
}

// plain is Run, of what is not wrong; it answers, too, which order left the trace in which round, -1 if none did.
func plain(p api.Code, r api.Trace, s api.State, fuel int) (_ api.State, by, rounds int) {
	s = sample.Copy(s)
	end := len(r.Snaps) - 1
	for by = -1; by < 0 && s.Steps+r.Snaps[end].Steps <= fuel; rounds++ {
		vals := make([]api.Value, len(r.Ins), len(r.Ins)+1)
		got := func(n int) api.Value { // X, Y and Z are not all orders' numbers
			if n < 0 || n >= len(vals) {
				return none
			}
			return vals[n]
		}
		snap := r.Snaps[end]
		for at, o := range r.Ins {
			v, is := plainDo(p, &s, o, got(o.X), got(o.Y), got(o.Z))
			if !is {
				by, snap = at, r.Snaps[o.Snap]
				break
			}
			vals[at] = v
		}
		f := &s.Frames[len(s.Frames)-1]
		vals = append(vals, none)
		for reg, n := range snap.Regs {
			if n != -1 {
				f.Regs[reg] = vals[n]
			}
		}
		f.PC, s.Steps = snap.PC, s.Steps+snap.Steps
	}
	return s, by, rounds
}

// agrees holds Run against plain; it answers which order left the trace, and how many rounds there were.
func agrees(t *testing.T, p api.Code, r api.Trace, s api.State, fuel int) (by, rounds int) {
	t.Helper()
	got, code := trace.Run(p, r, s, fuel)
	want, by, rounds := plain(p, r, s, fuel)
	if !sample.Same(got, want) || code != api.OK {
		t.Fatalf("Run(%+v, %+v, %+v, %d): %+v, %d; want %+v", p, r, s, fuel, got, code, want)
	}
	got.Out = nil // a trace may tell more texts than it takes steps, though a state may not have these (H1)
	if !machine.May(p, got) {
		t.Fatalf("Run(%+v, %+v, %+v, %d): %+v, which may not be", p, r, s, fuel, got)
	}
	return by, rounds
}

// J2, J3, J4: traces by a fixed rule, from states by a fixed rule; each order that can leaves some of them, and is done in others.
func TestByRule(t *testing.T) {
	left, done, rounds := map[int]int{}, map[int]int{}, map[int]int{}
	for number := range 1500 {
		p := sample.Code(number)
		for i := range 3 {
			r := sample.Trace(p, 3*number+i)
			if !trace.May(p, r) || !plainMay(p, r) {
				t.Fatalf("May(%+v, %+v): %v", p, r, trace.May(p, r))
			}
			for j := range 3 {
				s := sample.StateAt(p, r.Fun, r.Head, 9*number+3*i+j)
				by, many := agrees(t, p, r, s, s.Steps+20*j+r.Snaps[len(r.Snaps)-1].Steps)
				rounds[many]++
				for at, o := range r.Ins {
					if by == -1 || at < by {
						done[o.Op]++
					}
				}
				if by != -1 {
					left[r.Ins[by].Op]++
				}
			}
		}
	}
	for op := range api.TOp + api.OpNeg + 1 {
		row := letters(op)
		can := strings.Contains(row, "s") && op != api.TOp+api.OpNot && op != api.TOp+api.OpSame
		if row != "" && done[op] < 100 || can && left[op] < 20 {
			t.Errorf("the order %d was done in %d, left %d", op, done[op], left[op])
		}
	}
	if rounds[1] < 1000 || rounds[2] < 300 || rounds[3] < 300 {
		t.Errorf("too few rounds: %v", rounds)
	}
}

// asks holds May against plainMay.
func asks(t *testing.T, p api.Code, r api.Trace) bool {
	t.Helper()
	want := plainMay(p, r)
	if got := trace.May(p, r); got != want {
		t.Fatalf("May(%+v, %+v): %v", p, r, got)
	}
	return want
}

// J1: traces by a fixed rule, with any one number changed, or a list shorter or longer.
func TestMayByRule(t *testing.T) {
	found := map[bool]int{}
	for number := range 250 {
		p := sample.Code(number)
		r := sample.Trace(p, number)
		for _, n := range sample.Numbers(&r) {
			was := *n
			for _, other := range []int{math.MinInt, -2, -1, 0, was - 1, was + 1, was + 3, 60001, math.MaxInt} {
				*n = other
				found[asks(t, p, r)]++
			}
			*n = was
		}
		for i := range r.Snaps {
			regs := r.Snaps[i].Regs
			r.Snaps[i].Regs = regs[1:]
			asks(t, p, r)
			r.Snaps[i].Regs = append(regs, -1)
			asks(t, p, r)
			r.Snaps[i].Regs = regs
		}
		for i := range r.Ins {
			asks(t, p, api.Trace{Fun: r.Fun, Head: r.Head, Ins: r.Ins[:i], Snaps: r.Snaps})
		}
		for i := range r.Snaps {
			asks(t, p, api.Trace{Fun: r.Fun, Head: r.Head, Ins: r.Ins, Snaps: r.Snaps[:i]})
		}
	}
	if found[true] < 10000 || found[false] < 10000 {
		t.Errorf("too few of one kind: %v", found)
	}
}

// J1: every order, and numbers that are none, with every number near an edge in each field.
func TestMayEachField(t *testing.T) {
	p := program()
	tried := []int{math.MinInt, -1, 0, 1, 2, 3, 4, 5, 6, 7, 11, math.MaxInt}
	r := full()
	r.Ins = append(r.Ins[:10:10], api.Ins{}, val(num(3)))
	r.Snaps[1].Regs, r.Snaps[2].Regs = []int{0, 1, 2, 3, 5, 6}, r.Snaps[0].Regs
	for op := -1; op <= 43; op++ {
		for _, x := range tried {
			for _, y := range tried {
				for _, z := range tried {
					for snap := -2; snap <= 2; snap++ {
						r.Ins[10] = api.Ins{Op: op, X: x, Y: y, Z: z, Snap: snap}
						asks(t, p, r)
					}
				}
			}
		}
	}
}

// behind lays something odd behind the length of each list of a trace and of a state.
func behind(r *api.Trace, s *api.State) {
	odd := api.Value{Kind: 99}
	for i, u := range r.Snaps {
		r.Snaps[i].Regs = append(u.Regs, 99)[:len(u.Regs)]
	}
	r.Ins = append(r.Ins, api.Ins{Op: 99})[:len(r.Ins)]
	r.Snaps = append(r.Snaps, api.Snap{PC: 99})[:len(r.Snaps)]
	for i, f := range s.Frames {
		s.Frames[i].Regs = append(f.Regs, odd)[:len(f.Regs)]
	}
	for i, u := range s.Tables {
		s.Tables[i] = api.Table{Keys: append(u.Keys, odd)[:len(u.Keys)], Vals: append(u.Vals, odd)[:len(u.Vals)]}
	}
	s.Tables = append(s.Tables, api.Table{Keys: []api.Value{odd}})[:len(s.Tables)]
	s.Out = append(s.Out, "behind")[:len(s.Out)]
}

// stillBehind tells whether all of that is there.
func stillBehind(r api.Trace, s api.State) bool {
	there := r.Ins[:len(r.Ins)+1][len(r.Ins)].Op == 99 && r.Snaps[:len(r.Snaps)+1][len(r.Snaps)].PC == 99 &&
		len(s.Tables[:len(s.Tables)+1][len(s.Tables)].Keys) == 1 && s.Out[:len(s.Out)+1][len(s.Out)] == "behind"
	for _, u := range r.Snaps {
		there = there && u.Regs[:len(u.Regs)+1][len(u.Regs)] == 99
	}
	for _, list := range values(s) {
		there = there && list[:len(list)+1][len(list)].Kind == 99
	}
	return there
}

// values are the lists of values of a state.
func values(s api.State) (lists [][]api.Value) {
	for _, f := range s.Frames {
		lists = append(lists, f.Regs)
	}
	for _, t := range s.Tables {
		lists = append(lists, t.Keys, t.Vals)
	}
	return lists
}

// P3: what is handed in stays as it is, also behind the lists' lengths, and is not shared.
func TestNothingShared(t *testing.T) {
	for number := range 400 {
		p := sample.Code(number)
		r, was := sample.Trace(p, number), sample.Trace(p, number)
		s := sample.StateAt(p, r.Fun, r.Head, number)
		behind(&r, &s)
		copied := sample.Copy(s)
		for _, more := range []int{0, 12, 40} {
			got, code := trace.Run(p, r, s, s.Steps+more)
			if code != api.OK || !sample.Same(s, copied) || !sample.SameTrace(r, was) || !stillBehind(r, s) {
				t.Fatalf("changed: %d, %d", number, code)
			}
			apart(t, got, s, p, r)
		}
	}
}

// apart looks for memory that an answer shares with what was handed in, or one of its lists with another.
func apart(t *testing.T, got, s api.State, p api.Code, r api.Trace) {
	t.Helper()
	seen := map[unsafe.Pointer]int{}
	texts := slices.Clone(s.Out)
	given := values(s)
	for _, f := range p.Funs {
		given = append(given, f.Consts)
	}
	for _, o := range r.Ins {
		texts = append(texts, o.V.S)
	}
	for _, list := range given {
		seen[unsafe.Pointer(unsafe.SliceData(list))]++
		for _, v := range list {
			texts = append(texts, v.S)
		}
	}
	for _, text := range texts {
		seen[unsafe.Pointer(unsafe.StringData(text))]++
	}
	seen[unsafe.Pointer(unsafe.SliceData(s.Frames))]++
	seen[unsafe.Pointer(unsafe.SliceData(s.Tables))]++
	seen[unsafe.Pointer(unsafe.SliceData(s.Out))]++
	fresh := func(many int, at unsafe.Pointer, list int) {
		if many > 0 && seen[at] != 0 {
			t.Fatalf("shared memory: %+v", got)
		}
		seen[at] += list
	}
	told := slices.Clone(got.Out)
	for _, list := range values(got) {
		fresh(len(list), unsafe.Pointer(unsafe.SliceData(list)), min(1, len(list)))
		for _, v := range list {
			told = append(told, v.S)
		}
	}
	for _, text := range told {
		fresh(len(text), unsafe.Pointer(unsafe.StringData(text)), 0)
	}
	fresh(len(got.Frames), unsafe.Pointer(unsafe.SliceData(got.Frames)), 0)
	fresh(len(got.Tables), unsafe.Pointer(unsafe.SliceData(got.Tables)), 0)
	fresh(len(got.Out), unsafe.Pointer(unsafe.SliceData(got.Out)), 0)
}

// P3: a text of the trace that comes to stand in a register, in a table, and is told, is not shared.
func TestTextsApart(t *testing.T) {
	r := bare()
	r.Ins = []api.Ins{val(text(strings.Repeat("ab", 3))), ins(api.TEmit, -1, 0), ins(api.TReg, -1, 0), ins(api.TSet, 0, 2, 0, 0)}
	r.Snaps = append([]api.Snap{{PC: 3, Regs: []int{-1, 0, -1, -1, -1, -1}}}, r.Snaps...)
	r.Snaps[1].Regs[1] = 0
	for _, v := range []api.Value{tab(0), num(1)} {
		s := ahead(v)
		got, code := trace.Run(program(), r, s, 10)
		if code != api.OK || got.Frames[1].Regs[1] != text("ababab") {
			t.Errorf("Run: %+v, %d", got, code)
		}
		apart(t, got, s, program(), r)
	}
}

// J2: a runner on a machine does what Run does, each time that the machine is at the head: what was done ahead counts for nothing.
func TestOn(t *testing.T) {
	again := 0
	for number := range 900 {
		p := sample.Code(number)
		r := sample.Trace(p, number)
		s := sample.StateAt(p, r.Fun, r.Head, number)
		s.Steps += 200 // such a trace may tell more than it takes steps
		m := machine.New(p, s)
		runner := trace.On(m, r)
		for i := range 5 {
			fuel := s.Steps + 7*i
			want, code := trace.Run(p, r, s, fuel)
			runner.Rounds(fuel)
			if code != api.OK || !sample.Same(m.State, want) {
				t.Fatalf("%+v of %+v\nfrom %+v\nwith %d: %+v; want %+v", r, p, s, fuel, m.State, want)
			}
			s = want
			f := &s.Frames[len(s.Frames)-1]
			if f.PC == r.Head {
				again++
			}
			f.PC, m.Top().PC = r.Head, r.Head
		}
	}
	if again < 100 {
		t.Errorf("%d times at the head only", again)
	}
}

func FuzzRun(f *testing.F) {
	f.Add(1, 2, 3, 30, []byte{4, 1})
	f.Add(77, 5, 9, 7, []byte{})
	f.Fuzz(func(t *testing.T, number, which, state, fuel int, changes []byte) {
		p := sample.Code(number)
		r := sample.Trace(p, which)
		s := sample.StateAt(p, r.Fun, r.Head, state)
		agrees(t, p, r, s, s.Steps+int(uint(fuel)%100))
		for i, n := range changes {
			list := sample.Numbers(&r)
			*list[(i*31+which&1023)%len(list)] = int(int8(n))
			if asks(t, p, r) && r.Fun == s.Frames[len(s.Frames)-1].Fun && r.Head == s.Frames[len(s.Frames)-1].PC {
				agrees(t, p, r, s, s.Steps+int(uint(fuel)%100))
			}
		}
		got, code := trace.Run(p, r, s, fuel)
		if (code == api.ErrForm) == plainMay(p, r) || code != api.OK && !sample.Same(got, api.State{}) {
			t.Fatalf("Run(%+v, %+v, %+v, %d): %+v, %d", p, r, s, fuel, got, code)
		}
	})
}
