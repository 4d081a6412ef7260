package same_test

import (
	"math"
	"testing"
	"unsafe"

	"packtrail/api"
	"packtrail/compile"
	"packtrail/machine"
	"packtrail/record"
	"packtrail/same"
	"packtrail/sample"
	"packtrail/trace"
)

func isZero(r api.Trace) bool {
	return r.Fun == 0 && r.Head == 0 && len(r.Ins) == 0 && len(r.Snaps) == 0
}

// holds asks Of, and holds the answer against M1 and M3.
func holds(t *testing.T, p api.Code, r api.Trace) api.Trace {
	t.Helper()
	u := same.Of(p, r)
	if !trace.May(p, r) {
		if !isZero(u) {
			t.Fatalf("Of(%+v, %+v): %+v", p, r, u)
		}
		return u
	}
	if !trace.May(p, u) || u.Fun != r.Fun || u.Head != r.Head || len(u.Ins) > len(r.Ins) || len(u.Snaps) > len(r.Snaps) || u.Snaps[len(u.Snaps)-1].Steps != r.Snaps[len(r.Snaps)-1].Steps {
		t.Fatalf("Of(%+v, %+v): %+v", p, r, u)
	}
	for i, a := range u.Ins {
		for j, b := range u.Ins[:i] {
			if alike(a, b) {
				t.Fatalf("Of(%+v, %+v): %+v: the orders %d and %d are alike", p, r, u, j, i)
			}
		}
	}
	return u
}

// alike tells whether two orders are so, and of those that M3 speaks of.
func alike(a, b api.Ins) bool {
	of := a.Op == api.TReg || a.Op == api.TVal || a.Op == api.TKind || a.Op == api.TTrue || a.Op == api.TFalse || a.Op >= api.TOp+api.OpAdd && a.Op <= api.TOp+api.OpNeg
	return of && a.Op == b.Op && a.X == b.X && a.Y == b.Y && a.V == b.V
}

// nobodyTells holds what a trace answers against what another one does (M2).
func nobodyTells(t *testing.T, p api.Code, r, u api.Trace, s api.State, fuel int) api.State {
	t.Helper()
	want, code := trace.Run(p, r, s, fuel)
	got, other := trace.Run(p, u, s, fuel)
	if other != code || !sample.Same(got, want) {
		t.Fatalf("%+v of %+v\nfrom %+v\nwith %d: %+v, %d;\n%+v: %+v, %d", u, p, s, fuel, got, other, r, want, code)
	}
	return got
}

// count adds up how many orders of each Op there are.
func count(r api.Trace) map[int]int {
	many := map[int]int{}
	for _, o := range r.Ins {
		many[o.Op]++
	}
	return many
}

// M1 to M3: traces by a fixed rule, with orders that are there again, from states by a fixed rule; orders that M3 speaks of go, of each Op, no others do.
func TestByRule(t *testing.T) {
	gone, left := map[int]int{}, map[int]int{}
	rounds, outs := 0, 0
	for number := range 1500 {
		p := sample.Code(number)
		for i := range 4 {
			r := sample.Trace(p, 4*number+i)
			if i > 0 {
				r = sample.Again(r, 4*number+i)
			}
			if !trace.May(p, r) {
				t.Fatalf("may not be: %+v", r)
			}
			u := holds(t, p, r)
			now := count(u)
			for op, many := range count(r) {
				gone[op] += many - now[op]
				left[op] += now[op]
			}
			end := r.Snaps[len(r.Snaps)-1].Steps
			for j := range 4 {
				s := sample.StateAt(p, r.Fun, r.Head, 16*number+4*i+j)
				if got := nobodyTells(t, p, r, u, s, s.Steps+j*end+i); j > 0 && got.Steps+end > s.Steps+j*end+i {
					rounds++
				} else {
					outs++
				}
			}
		}
	}
	for op := api.TReg; op <= api.TOp+api.OpNeg; op++ {
		goes := op == api.TReg || op == api.TVal || op >= api.TKind && op <= api.TFalse || op > api.TOp
		if (op <= api.TFalse || op > api.TOp) && (left[op] < 100 || goes != (gone[op] >= 50) || !goes && gone[op] != 0) {
			t.Errorf("the order %d: %d gone, %d left", op, gone[op], left[op])
		}
	}
	if rounds < 3000 || outs < 3000 {
		t.Errorf("%d done, %d left", rounds, outs)
	}
}

// M1 to M3: rounds by a fixed rule, recorded, as they are and with orders that are there again; from the state itself the round is done still.
func TestRecorded(t *testing.T) {
	for number := range 500 {
		p, s, steps := sample.Round(number)
		r, ok := record.Of(p, s, api.MaxIns)
		if !ok {
			t.Fatalf("not recorded: %d", number)
		}
		double := sample.Again(r, number)
		u, v := holds(t, p, r), holds(t, p, double)
		for rounds := range 4 {
			if got := nobodyTells(t, p, r, u, s, s.Steps+rounds*steps); rounds == 1 && got.Steps != s.Steps+steps {
				t.Fatalf("not done: %d", number)
			}
			nobodyTells(t, p, double, v, s, s.Steps+rounds*steps)
			other := sample.StateAt(p, r.Fun, r.Head, 4*number+rounds)
			nobodyTells(t, p, r, u, other, other.Steps+rounds*steps)
			nobodyTells(t, p, double, v, other, other.Steps+rounds*steps)
		}
	}
}

// M1 to M3: programs by a fixed rule, compiled, and recorded at each step.
func TestPrograms(t *testing.T) {
	recorded, shorter := 0, 0
	for number := range 200 {
		p, fault := compile.Make(sample.Program(number))
		if fault.Code != api.OK {
			continue
		}
		s, _ := machine.Begin(p)
		for s.End == api.EndFuel && s.Steps < 120 {
			if r, ok := record.Of(p, s, api.MaxIns); ok {
				recorded++
				u := holds(t, p, r)
				if len(u.Ins) < len(r.Ins) {
					shorter++
				}
				end := r.Snaps[len(r.Snaps)-1].Steps
				for _, more := range []int{end - 1, end, 3 * end, 9 * end} {
					nobodyTells(t, p, r, u, s, s.Steps+more)
				}
				other := sample.StateAt(p, r.Fun, r.Head, number)
				nobodyTells(t, p, r, u, other, other.Steps+2*end)
			}
			s, _ = machine.Go(p, s, s.Steps+1)
		}
	}
	if recorded < 500 || shorter < 50 {
		t.Errorf("%d recorded, %d of which are shorter", recorded, shorter)
	}
}

// M2: what Run refuses, it refuses alike.
func TestRefusesAlike(t *testing.T) {
	for number := range 200 {
		p := sample.Code(number)
		r := sample.Again(sample.Trace(p, number), number)
		u := holds(t, p, r)
		good := sample.StateAt(p, r.Fun, r.Head, number)
		done, wrong := sample.Copy(good), sample.Copy(good)
		done.End = api.EndDone
		wrong.Steps = -1
		for _, s := range []api.State{good, done, wrong, {}, sample.State(p, number), sample.State(p, number+1)} {
			for _, fuel := range []int{math.MinInt, -1, 0, 20, api.MaxFuel, api.MaxFuel + 1, math.MaxInt} {
				if fuel == api.MaxFuel && number%20 > 0 {
					continue
				}
				nobodyTells(t, p, r, u, s, fuel)
			}
		}
	}
}

// M1: traces by a fixed rule, with any one number changed.
func TestAnyNumber(t *testing.T) {
	found := map[bool]int{}
	for number := range 60 {
		p := sample.Code(number)
		r := sample.Again(sample.Trace(p, number), number)
		s := sample.StateAt(p, r.Fun, r.Head, number)
		for _, n := range sample.Numbers(&r) {
			was := *n
			for _, other := range []int{math.MinInt, -2, -1, 0, was - 1, was + 1, was + 3, 60001, math.MaxInt} {
				*n = other
				u := holds(t, p, r)
				nobodyTells(t, p, r, u, s, s.Steps+20)
				found[isZero(u)]++
			}
			*n = was
		}
	}
	if found[true] < 5000 || found[false] < 5000 {
		t.Errorf("too few of one kind: %v", found)
	}
}

// P3: what is handed in stays as it is, also behind the lists' lengths, and what is behind these counts for nothing.
func TestNothingChanged(t *testing.T) {
	for number := range 300 {
		p := sample.Code(number)
		r := sample.Again(sample.Trace(p, number), number)
		was, plain := sample.CopyTrace(r), same.Of(p, r)
		for i, s := range r.Snaps {
			r.Snaps[i].Regs = append(s.Regs, 99)[:len(s.Regs)]
		}
		r.Ins = append(r.Ins, api.Ins{Op: 99})[:len(r.Ins)]
		r.Snaps = append(r.Snaps, api.Snap{PC: 99})[:len(r.Snaps)]
		if u := same.Of(p, r); !sample.SameTrace(u, plain) || !sample.SameTrace(r, was) {
			t.Fatalf("changed: %d", number)
		}
		there := r.Ins[:len(r.Ins)+1][len(r.Ins)].Op == 99 && r.Snaps[:len(r.Snaps)+1][len(r.Snaps)].PC == 99
		for _, s := range r.Snaps {
			there = there && s.Regs[:len(s.Regs)+1][len(s.Regs)] == 99
		}
		if !there {
			t.Fatalf("changed behind a length: %d", number)
		}
	}
}

// P3: the answer shares no memory with what was handed in, its texts among it, nor with another answer; and no two of its lists share any.
func TestNothingShared(t *testing.T) {
	texts := 0
	apart := func(p api.Code, r api.Trace) {
		t.Helper()
		places := map[unsafe.Pointer]int{}
		fresh := func(many int, at unsafe.Pointer) {
			if many > 0 && places[at] != 0 {
				t.Fatalf("shared memory: %+v", r)
			}
			places[at]++
		}
		look := func(r api.Trace) {
			fresh(len(r.Ins), unsafe.Pointer(unsafe.SliceData(r.Ins)))
			fresh(len(r.Snaps), unsafe.Pointer(unsafe.SliceData(r.Snaps)))
			for _, s := range r.Snaps {
				fresh(len(s.Regs), unsafe.Pointer(unsafe.SliceData(s.Regs)))
			}
		}
		look(r)
		for _, o := range r.Ins {
			places[unsafe.Pointer(unsafe.StringData(o.V.S))]++
		}
		for range 2 {
			u := same.Of(p, r)
			look(u)
			for _, o := range u.Ins {
				fresh(len(o.V.S), unsafe.Pointer(unsafe.StringData(o.V.S)))
				texts += len(o.V.S)
			}
		}
	}
	for number := range 300 {
		p := sample.Code(number)
		apart(p, sample.Again(sample.Trace(p, number), number))
	}
	apart(program(), round(regs(1, 2), val(text(sample.Longest())), val(text("ab")), val(text(sample.Longest()))))
	if texts == 0 {
		t.Error("no texts were tried")
	}
}

func FuzzOf(f *testing.F) {
	f.Add(1, 2, 3, 30, []byte{4, 1})
	f.Add(77, 5, 9, 7, []byte{})
	f.Fuzz(func(t *testing.T, number, which, state, fuel int, changes []byte) {
		p := sample.Code(number)
		r := sample.Again(sample.Trace(p, which), state)
		s := sample.StateAt(p, r.Fun, r.Head, state)
		nobodyTells(t, p, r, holds(t, p, r), s, s.Steps+int(uint(fuel)%100))
		for i, n := range changes {
			list := sample.Numbers(&r)
			*list[(i*31+which&1023)%len(list)] = int(int8(n))
			nobodyTells(t, p, r, holds(t, p, r), s, s.Steps+int(uint(fuel)%100))
		}
		nobodyTells(t, p, r, holds(t, p, r), s, fuel)
	})
}
