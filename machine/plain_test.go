package machine_test

import (
	"math"
	"slices"
	"strings"
	"testing"
	"unsafe"

	"packtrail/api"
	"packtrail/machine"
	"packtrail/sample"
	"packtrail/table"
	"packtrail/value"
)

// plain is Go: each step is tried with a state of its own, which is thrown away where the step fails.
func plain(p api.Code, s api.State, fuel int) api.State {
	for s.End == api.EndFuel && s.Steps < fuel {
		next, code := plainStep(p, sample.Copy(s))
		if code != api.OK {
			next = s
			next.End, next.Err = api.EndFailed, code
		}
		next.Steps = s.Steps + 1
		s = next
	}
	return s
}

// plainStep does an order, and moves on even if it is found to fail.
func plainStep(p api.Code, s api.State) (api.State, api.Errno) {
	top := len(s.Frames) - 1
	f := &s.Frames[top]
	r := f.Regs
	o := p.Funs[f.Fun].Code[f.PC]
	f.PC++
	var t *api.Table // the one that the order is to look at
	at := map[int]int{api.CGet: o.B, api.CSet: o.A, api.CLen: o.B, api.CNext: o.B}
	if reg, is := at[o.Op]; is {
		if v := r[reg]; v.Kind == api.VTable {
			t = &s.Tables[v.N]
		} else if o.Op != api.CLen || v.Kind != api.VText {
			return s, api.ErrKind
		}
	}
	code := api.OK
	switch o.Op {
	case api.CMove:
		r[o.A] = r[o.B]
	case api.CConst:
		r[o.A] = p.Funs[f.Fun].Consts[o.B]
	case api.CNew:
		r[o.A] = sample.Tab(int64(len(s.Tables)))
		s.Tables = append(s.Tables, api.Table{})
		if len(s.Tables) > 200 {
			code = api.ErrSize
		}
	case api.CGet:
		r[o.A] = table.Get(*t, r[o.C])
	case api.CSet:
		*t, code = table.Set(*t, r[o.B], r[o.C])
	case api.CLen:
		n := len(r[o.B].S)
		if t != nil {
			n = table.Len(*t)
		}
		r[o.A] = sample.Num(int64(n))
	case api.CNext:
		r[o.A], code = table.Next(*t, r[o.C])
	case api.CTest:
		if v := r[o.A]; v == (api.Value{}) || v == sample.Bool(false) {
			f.PC = o.B
		}
	case api.CJump, api.CLoop:
		f.PC = o.A
	case api.CEmit:
		s.Out = append(s.Out, value.Text(r[o.A]))
	case api.CCall:
		s.Frames, code = plainCall(p, s.Frames, o)
	case api.CReturn:
		if top == 0 {
			f.PC--
			s.End, s.Last = api.EndDone, r[o.A]
			break
		}
		s.Frames[top-1].Regs[f.Dest] = r[o.A]
		s.Frames = s.Frames[:top]
	case api.COp + api.OpNot, api.COp + api.OpNeg:
		r[o.A], code = value.Op(o.Op-api.COp, r[o.B], api.Value{})
	default:
		r[o.A], code = value.Op(o.Op-api.COp, r[o.B], r[o.C])
	}
	return s, code
}

func plainCall(p api.Code, frames []api.Frame, o api.Instr) ([]api.Frame, api.Errno) {
	r := frames[len(frames)-1].Regs
	if r[o.B].Kind != api.VFun {
		return nil, api.ErrKind
	}
	if len(frames) >= 40 {
		return nil, api.ErrSize
	}
	fun := p.Funs[r[o.B].N]
	regs := make([]api.Value, fun.Regs)
	for i := 1; i <= o.C && i <= fun.Params; i++ {
		regs[i-1] = r[o.B+i]
	}
	return append(frames, api.Frame{Fun: int(r[o.B].N), Dest: o.A, Regs: regs}), api.OK
}

// agrees holds Go against plain, from one state on; what comes of it may be.
func agrees(t *testing.T, p api.Code, s api.State, fuel int) api.State {
	t.Helper()
	got, code := machine.Go(p, s, fuel)
	if want := plain(p, s, fuel); !same(got, want) || code != api.OK {
		t.Fatalf("Go(%v, %+v, %d): %+v, %d; want %+v", p, s, fuel, got, code, want)
	}
	if !machine.May(p, got) {
		t.Fatalf("Go(%v, %+v, %d): %+v, which may not be", p, s, fuel, got)
	}
	return got
}

// H3, H4: programs by a fixed rule, from their beginning, and from states by a fixed rule; each order fails and is done in some of them.
func TestByRule(t *testing.T) {
	ends := map[int]int{}
	codes := map[api.Errno]int{}
	for number := range 900 {
		p := sample.Code(number)
		s, _ := machine.Begin(p)
		for i := range 12 {
			if !machine.May(p, s) {
				t.Fatalf("%v: %+v may not be", p, s)
			}
			fuel := s.Steps + 3*i
			got := agrees(t, p, s, fuel)
			ends[got.End]++
			codes[got.Err]++
			s = sample.State(p, number*12+i)
		}
	}
	if len(ends) != 3 || len(codes) != 5 {
		t.Errorf("too few ends: %v, %v", ends, codes)
	}
}

// H4: each order, at states by a fixed rule: often done, often failing.
func TestEachOrder(t *testing.T) {
	regs := []int{0, 1, 2}
	for op := api.CMove; op <= api.COp+api.OpNeg; op++ {
		p := program(order(op, 0, 1, 2))
		if op == api.CEmit || op == api.CNew || op == api.CReturn || op == api.CJump || op == api.CLoop {
			p = program(order(op, 1))
		} else if op < api.CGet || op == api.CLen || op == api.CTest || op >= api.COp+api.OpNot {
			p = program(order(op, regs[:2]...))
		} else if op > api.CEmit && op <= api.COp {
			continue
		}
		ends := map[int]int{}
		for number := range 800 {
			s := sample.State(p, number)
			s.Frames[len(s.Frames)-1].Fun, s.Frames[len(s.Frames)-1].PC = 1, 1
			s.Frames[len(s.Frames)-1].Regs = sample.State(api.Code{Funs: p.Funs[1:2], Main: 0}, number).Frames[0].Regs
			if machine.May(p, s) {
				ends[agrees(t, p, s, s.Steps+1).End]++
			}
		}
		if ends[api.EndFuel] < 10 && ends[api.EndDone] < 10 {
			t.Errorf("the order %d is hardly ever done: %v", op, ends)
		}
	}
}

// H3: a run in parts comes to where it comes in one.
func TestParts(t *testing.T) {
	for number := range 600 {
		p := sample.Code(number)
		whole, _ := machine.Go(p, sample.State(p, number), 60)
		s := sample.State(p, number)
		for fuel := range 61 {
			if fuel%(1+number%7) == 0 || fuel == 60 {
				s, _ = machine.Go(p, s, fuel)
			}
		}
		if !same(s, whole) {
			t.Fatalf("%v: %+v in parts, %+v in one", p, s, whole)
		}
	}
}

// goOn has a machine do steps, till its run ends.
func goOn(m *machine.Machine, steps int) {
	for range steps {
		if m.End == api.EndFuel {
			m.Step()
		}
	}
}

// H4: a machine's twin goes on from where that one is: whoever goes first, and from wherever, neither can tell.
func TestTwin(t *testing.T) {
	told, set := 0, 0
	for number := range 900 {
		p, s, _ := sample.Round(number)
		if number%2 == 0 {
			p = sample.Code(number)
			s = sample.State(p, number)
		}
		s.Out = append(make([]string, 0, 90), s.Out...)
		want, _ := machine.Go(p, s, s.Steps+30)
		for apart := range 12 {
			m := machine.New(p, s)
			goOn(m, apart)
			m.Out = append(make([]string, 0, 90), m.Out...)
			here := m.Fresh()
			twin := m.Twin()
			goOn(twin, 30-apart)
			if !same(m.State, here) || !same(twin.State, want) {
				t.Fatalf("%v: %+v, its twin %+v; want %+v, %+v", p, m.State, twin.State, here, want)
			}
			third := m.Twin()
			goOn(m, 30-apart)
			if !same(m.State, want) || !same(twin.State, want) || !same(third.State, here) {
				t.Fatalf("%v: %+v, its twins %+v, %+v; want %+v, %+v", p, m.State, twin.State, third.State, want, here)
			}
			// A text that only one of them tells is not told by the other.
			m.Out, twin.Out = append(m.Out, "m"), append(twin.Out, "twin")
			third.Out = append(third.Out, "third")
			if m.Out[len(m.Out)-1] != "m" || twin.Out[len(twin.Out)-1] != "twin" || third.Out[len(third.Out)-1] != "third" {
				t.Fatalf("%v: told by another", p)
			}
			told += len(want.Out) - len(here.Out)
			if !slices.EqualFunc(here.Tables, want.Tables, func(a, b api.Table) bool { return slices.Equal(a.Vals, b.Vals) }) {
				set++
			}
		}
	}
	if told < 1000 || set < 1000 {
		t.Errorf("too few: %d told, %d set", told, set)
	}
}

// P3: what is handed in stays as it is, also behind the lists' lengths, and is not shared.
func TestNothingShared(t *testing.T) {
	odd := api.Value{Kind: 99}
	for number := range 300 {
		p := sample.Code(number)
		s := sample.State(p, number)
		for i, f := range s.Frames {
			s.Frames[i].Regs = append(f.Regs, odd)[:len(f.Regs)]
		}
		for i, u := range s.Tables {
			s.Tables[i] = api.Table{Keys: append(u.Keys, odd)[:len(u.Keys)], Vals: append(u.Vals, odd)[:len(u.Vals)]}
		}
		s.Frames = append(s.Frames, api.Frame{Fun: 99})[:len(s.Frames)]
		s.Tables = append(s.Tables, api.Table{Keys: []api.Value{odd}})[:len(s.Tables)]
		s.Out = append(s.Out, "behind")[:len(s.Out)]
		for _, fuel := range []int{0, s.Steps, s.Steps + 1, s.Steps + 20} {
			was := sample.Copy(s)
			got, _ := machine.Go(p, s, fuel)
			if !same(s, was) || s.Frames[:len(s.Frames)+1][len(s.Frames)].Fun != 99 || s.Out[:len(s.Out)+1][len(s.Out)] != "behind" || len(s.Tables[:len(s.Tables)+1][len(s.Tables)].Keys) != 1 {
				t.Fatal("changed", number)
			}
			for _, list := range values(s) {
				if list[:len(list)+1][len(list)] != odd {
					t.Fatal("changed behind its length", number)
				}
			}
			apart(t, got, s, p)
		}
	}
}

// values are the lists of values of a state.
func values(s api.State) (lists [][]api.Value) {
	for _, f := range s.Frames {
		lists = append(lists, f.Regs)
	}
	for _, t := range s.Tables {
		lists = append(lists, t.Keys, t.Vals)
	}
	return lists
}

// apart looks for memory that an answer shares with what was handed in, or one of its lists with another.
func apart(t *testing.T, got, s api.State, p api.Code) {
	t.Helper()
	const handed = 1
	seen := map[unsafe.Pointer]int{}
	note := func(at unsafe.Pointer) { seen[at] = handed }
	note(unsafe.Pointer(unsafe.SliceData(s.Frames)))
	note(unsafe.Pointer(unsafe.SliceData(s.Tables)))
	note(unsafe.Pointer(unsafe.SliceData(s.Out)))
	consts := append(values(s), []api.Value{s.Last})
	for _, f := range p.Funs {
		consts = append(consts, f.Consts)
	}
	for _, list := range consts {
		note(unsafe.Pointer(unsafe.SliceData(list)))
		for _, v := range list {
			note(unsafe.Pointer(unsafe.StringData(v.S)))
		}
	}
	for _, out := range s.Out {
		note(unsafe.Pointer(unsafe.StringData(out)))
	}
	fresh := func(many int, at unsafe.Pointer, list bool) {
		if many > 0 && seen[at] != 0 {
			t.Fatalf("shared memory: %+v", got)
		}
		if many > 0 && list {
			seen[at] = 2
		}
	}
	fresh(len(got.Frames), unsafe.Pointer(unsafe.SliceData(got.Frames)), true)
	fresh(len(got.Tables), unsafe.Pointer(unsafe.SliceData(got.Tables)), true)
	fresh(len(got.Out), unsafe.Pointer(unsafe.SliceData(got.Out)), true)
	for _, list := range append(values(got), []api.Value{got.Last}) {
		fresh(len(list), unsafe.Pointer(unsafe.SliceData(list)), true)
		for _, v := range list {
			fresh(len(v.S), unsafe.Pointer(unsafe.StringData(v.S)), false)
		}
	}
	for _, out := range got.Out {
		fresh(len(out), unsafe.Pointer(unsafe.StringData(out)), false)
	}
}

// P3: Begin's registers are new memory each time.
func TestBeginNew(t *testing.T) {
	p := program(order(api.CNew, 0))
	one, _ := machine.Begin(p)
	one.Frames[0].Regs[0] = yes
	if two, _ := machine.Begin(p); two.Frames[0].Regs[0] != none {
		t.Error("shared memory")
	}
}

// P3: frames and tables that share memory where they are handed in do not in what comes out.
func TestSharedIn(t *testing.T) {
	p := program(order(api.CMove, 0, 1))
	s := deep(1, num(1), num(2))
	s.Frames = append(s.Frames, s.Frames[0])
	s.Tables = append(s.Tables, s.Tables[1])
	got, code := machine.Go(p, s, 6)
	if code != api.OK || got.Frames[0].Regs[0] != num(1) || got.Frames[1].Regs[0] != num(2) {
		t.Errorf("Go: %+v, %d", got, code)
	}
	apart(t, got, s, p)
}

// P3: a text that is the answer shares nothing with the constant that it was, nor with the state that is handed in.
func TestLastApart(t *testing.T) {
	p := program(order(api.CConst, 0, 1))
	p.Funs[1].Code[2] = order(api.CReturn, 0)
	s := ahead()
	got, code := machine.Go(p, s, 9)
	if code != api.OK || got.Last != text("k") {
		t.Errorf("Go: %+v, %d", got, code)
	}
	apart(t, got, s, p)
	again, _ := machine.Go(p, got, 9)
	apart(t, again, got, p)
}

// plainMay is May of a state, of a program that may be.
func plainMay(p api.Code, s api.State) bool {
	good := len(s.Frames) > 0 && len(s.Frames) <= 40 && len(s.Tables) <= 200 && s.Steps >= 0 && s.Steps <= 60000 && len(s.Out) <= s.Steps
	there := map[int]int{api.VTable: len(s.Tables), api.VFun: len(p.Funs)}
	value := func(v api.Value) bool {
		end, named := there[v.Kind]
		return value.May(v) && (!named || v.N < int64(end))
	}
	for i, f := range s.Frames {
		good = good && f.Fun >= 0 && f.Fun < len(p.Funs)
		good = good && f.PC >= 0 && f.PC < len(p.Funs[f.Fun].Code) && len(f.Regs) == p.Funs[f.Fun].Regs
		good = good && f.Dest >= 0 && (i == 0 && f.Dest == 0 || i > 0 && f.Dest < p.Funs[s.Frames[i-1].Fun].Regs)
	}
	for _, list := range values(s) {
		for _, v := range list {
			good = good && value(v)
		}
	}
	for _, u := range s.Tables {
		good = good && table.May(u)
	}
	for _, told := range s.Out {
		good = good && len(told) <= 300
	}
	fits := map[int]bool{
		api.EndFuel:   s.Err == 0 && s.Last == api.Value{},
		api.EndDone:   s.Err == 0 && value(s.Last),
		api.EndFailed: s.Last == api.Value{} && slices.Contains([]api.Errno{1, 3, 4, 7}, s.Err),
	}
	return good && fits[s.End]
}

// changeOne changes one thing of a state.
func changeOne(s *api.State, pick, n int) {
	switch f := &s.Frames[pick%len(s.Frames)]; pick % 13 {
	case 0:
		f.Fun = n
	case 1:
		f.PC = n
	case 2:
		f.Dest = n
	case 3:
		f.Regs = f.Regs[:max(0, len(f.Regs)-1)]
	case 4:
		s.Steps = n
	case 5:
		s.End = n
	case 6:
		s.Err = api.Errno(n)
	case 7:
		s.Last = api.Value{Kind: n & 7, N: int64(n)}
	case 8:
		s.Out = append(s.Out, strings.Repeat("a", 297+n&7))
	case 9:
		s.Tables = s.Tables[:len(s.Tables)/2]
	case 10:
		s.Tables = append(s.Tables, api.Table{})
	default:
		if lists := values(*s); len(lists[pick%len(lists)]) > 0 {
			list := lists[pick%len(lists)]
			list[n&1023%len(list)] = api.Value{Kind: n & 7, N: int64(n >> 1)}
		}
	}
}

// H1: states by a fixed rule, with some things changed.
func TestMayByRule(t *testing.T) {
	tried := []int{math.MinInt, -2, -1, 0, 1, 2, 3, 4, 5, 6, 7, 8, 12, 13, 40, 60000, 60001, math.MaxInt}
	found := map[bool]int{}
	for number := range 500 {
		p := sample.Code(number)
		for i, n := range tried {
			s := sample.State(p, number)
			for j := range 1 + i%2 {
				changeOne(&s, number/2+i+17*j, n)
			}
			want := plainMay(p, s)
			found[want]++
			if got := machine.May(p, s); got != want {
				t.Fatalf("May(%v, %+v): %v", p, s, got)
			}
		}
	}
	if found[true] < 1000 || found[false] < 1000 {
		t.Errorf("too few of one kind: %v", found)
	}
}

func FuzzGo(f *testing.F) {
	f.Add(1, 2, 30, []byte{4, 1})
	f.Add(77, 5, 9, []byte{})
	f.Fuzz(func(t *testing.T, number, state, fuel int, changes []byte) {
		p := sample.Code(number)
		s := sample.State(p, state)
		agrees(t, p, s, s.Steps+int(uint(fuel)%200))
		for i, n := range changes {
			changeOne(&s, i*7+int(n)/2, int(int8(n)))
			if len(s.Frames) == 0 {
				return
			}
		}
		if machine.May(p, s) != plainMay(p, s) {
			t.Fatalf("May(%v, %+v): %v", p, s, machine.May(p, s))
		}
		if got, code := machine.Go(p, s, fuel); code == api.OK && !same(got, plain(p, s, fuel)) || (code == api.ErrForm) == plainMay(p, s) || code != api.OK && !same(got, api.State{}) {
			t.Fatalf("Go(%v, %+v, %d): %+v, %d", p, s, fuel, got, code)
		}
	})
}
