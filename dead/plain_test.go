package dead_test

import (
	"math"
	"slices"
	"testing"
	"unsafe"

	"packtrail/api"
	"packtrail/compile"
	"packtrail/dead"
	"packtrail/fold"
	"packtrail/forward"
	"packtrail/machine"
	"packtrail/record"
	"packtrail/same"
	"packtrail/sample"
	"packtrail/trace"
)

func isZero(r api.Trace) bool {
	return r.Fun == 0 && r.Head == 0 && len(r.Ins) == 0 && len(r.Snaps) == 0
}

// holds asks Of, and holds the answer against O1 and O3.
func holds(t *testing.T, p api.Code, r api.Trace) api.Trace {
	t.Helper()
	u := dead.Of(p, r)
	if !trace.May(p, r) {
		if !isZero(u) {
			t.Fatalf("Of(%+v, %+v): %+v", p, r, u)
		}
		return u
	}
	if !trace.May(p, u) || u.Fun != r.Fun || u.Head != r.Head || len(u.Ins) > len(r.Ins) || len(u.Snaps) > len(r.Snaps) || u.Snaps[len(u.Snaps)-1].Steps != r.Snaps[len(r.Snaps)-1].Steps {
		t.Fatalf("Of(%+v, %+v): %+v", p, r, u)
	}
	for at, o := range u.Ins {
		if idle(o.Op) && !isAsked(u, at) {
			t.Fatalf("Of(%+v, %+v): %+v: nobody asks for the order %d", p, r, u, at)
		}
	}
	return u
}

// idle tells of an order whether it has but a value (O3).
func idle(op int) bool {
	return op == api.TReg || op == api.TVal || op == opSame || op == opNot
}

// isAsked tells whether somebody asks for an order (O3).
func isAsked(r api.Trace, at int) bool {
	for _, o := range r.Ins {
		for _, n := range trace.Asked(&o) {
			if *n == at {
				return true
			}
		}
		if o.Snap >= 0 && !idle(o.Op) && slices.Contains(r.Snaps[o.Snap].Regs, at) {
			return true
		}
	}
	return slices.Contains(r.Snaps[len(r.Snaps)-1].Regs, at)
}

// nobodyTells holds what a trace answers against what another one does (O2).
func nobodyTells(t *testing.T, p api.Code, r, u api.Trace, s api.State, fuel int) api.State {
	t.Helper()
	want, code := trace.Run(p, r, s, fuel)
	got, other := trace.Run(p, u, s, fuel)
	if other != code || !sample.Same(got, want) {
		t.Fatalf("%+v of %+v\nfrom %+v\nwith %d: %+v, %d;\n%+v: %+v, %d", u, p, s, fuel, got, other, r, want, code)
	}
	return got
}

// count adds up how many orders of each Op there are.
func count(r api.Trace) map[int]int {
	many := map[int]int{}
	for _, o := range r.Ins {
		many[o.Op]++
	}
	return many
}

// pick is one of the traces of a number: as it comes, with orders that are there again, and of one kind or the other that has more to do with tables.
func pick(p api.Code, number int) api.Trace {
	r := sample.Kept(p, number)
	if number&1 == 0 {
		r = sample.Trace(p, number)
	}
	if number&2 == 0 {
		r = sample.Again(r, number)
	}
	return r
}

// O1 to O3: traces by a fixed rule from states by a fixed rule; of the kinds that have but a value some go, and some stay, of the others all stay.
func TestByRule(t *testing.T) {
	gone, left := map[int]int{}, map[int]int{}
	rounds, outs := 0, 0
	for number := range 1500 {
		p := sample.Code(number)
		for i := range 4 {
			r := pick(p, 4*number+i)
			if !trace.May(p, r) {
				t.Fatalf("may not be: %+v", r)
			}
			u := holds(t, p, r)
			now := count(u)
			for op, many := range count(r) {
				gone[op] += many - now[op]
				left[op] += now[op]
			}
			end := r.Snaps[len(r.Snaps)-1].Steps
			for j := range 4 {
				s := sample.StateAt(p, r.Fun, r.Head, 16*number+4*i+j)
				if got := nobodyTells(t, p, r, u, s, s.Steps+j*end+i); j > 0 && got.Steps+end > s.Steps+j*end+i {
					rounds++
				} else {
					outs++
				}
			}
		}
	}
	for op := api.TReg; op <= api.TOp+api.OpNeg; op++ {
		if (op <= api.TFalse || op > api.TOp) && (left[op] < 100 || idle(op) != (gone[op] >= 100) || !idle(op) && gone[op] != 0) {
			t.Errorf("the order %d: %d gone, %d left", op, gone[op], left[op])
		}
	}
	if rounds < 3000 || outs < 3000 {
		t.Errorf("%d done, %d left", rounds, outs)
	}
}

// all betters a trace in each of the ways ahead of this one.
func all(p api.Code, r api.Trace) api.Trace {
	return forward.Of(p, same.Of(p, fold.Of(p, r)))
}

// O1 to O3: rounds by a fixed rule, recorded, as they are, with orders that are there again, and bettered ahead; from the state itself the round is done still.
func TestRecorded(t *testing.T) {
	gone := 0
	for number := range 500 {
		p, s, steps := sample.Round(number)
		r, ok := record.Of(p, s, api.MaxIns)
		if !ok {
			t.Fatalf("not recorded: %d", number)
		}
		double, better := sample.Again(r, number), all(p, r)
		u, v, w := holds(t, p, r), holds(t, p, double), holds(t, p, better)
		gone += len(double.Ins) - len(v.Ins) + len(better.Ins) - len(w.Ins)
		for rounds := range 4 {
			if got := nobodyTells(t, p, r, u, s, s.Steps+rounds*steps); rounds == 1 && got.Steps != s.Steps+steps {
				t.Fatalf("not done: %d", number)
			}
			nobodyTells(t, p, double, v, s, s.Steps+rounds*steps)
			nobodyTells(t, p, r, w, s, s.Steps+rounds*steps)
			other := sample.StateAt(p, r.Fun, r.Head, 4*number+rounds)
			nobodyTells(t, p, r, u, other, other.Steps+rounds*steps)
			nobodyTells(t, p, double, v, other, other.Steps+rounds*steps)
			nobodyTells(t, p, r, w, other, other.Steps+rounds*steps)
		}
	}
	if gone < 100 {
		t.Errorf("%d gone", gone)
	}
}

// O1 to O3: programs by a fixed rule, compiled, and recorded at each step; as they are, and bettered ahead.
func TestPrograms(t *testing.T) {
	recorded, gone := 0, 0
	for number := range 200 {
		p, fault := compile.Make(sample.Program(number))
		if fault.Code != api.OK {
			continue
		}
		s, _ := machine.Begin(p)
		for s.End == api.EndFuel && s.Steps < 120 {
			if r, ok := record.Of(p, s, api.MaxIns); ok {
				recorded++
				better := all(p, r)
				u, v := holds(t, p, r), holds(t, p, better)
				gone += len(better.Ins) - len(v.Ins)
				end := r.Snaps[len(r.Snaps)-1].Steps
				for _, more := range []int{end - 1, end, 3 * end, 9 * end} {
					nobodyTells(t, p, r, u, s, s.Steps+more)
					nobodyTells(t, p, r, v, s, s.Steps+more)
				}
				other := sample.StateAt(p, r.Fun, r.Head, number)
				nobodyTells(t, p, r, u, other, other.Steps+2*end)
				nobodyTells(t, p, r, v, other, other.Steps+2*end)
			}
			s, _ = machine.Go(p, s, s.Steps+1)
		}
	}
	if recorded < 500 || gone < 200 {
		t.Errorf("%d recorded, %d orders gone", recorded, gone)
	}
}

// O2 and O3: programs of whose values some are asked for by nobody, once the rest is bettered: less is done, and the same as by the machine.
func TestTexts(t *testing.T) {
	for text, last := range map[string]api.Value{
		`while i < 30 do emit (1 + 2) * (3 + 4); emit 5 * 6 * 7 - (8 + 9); n = n + i; i = i + 1; end return n;`:                num(435),
		`while i < 20 do local x = i == 7; x = not x; x = not not x; x = i; emit x; i = i + 1; end return i;`:                  num(20),
		`while i < 20 do emit not (1 == 2); emit (i == 3) == (n == i); emit not (n == 4); n = n + i; i = i + 1; end return n;`: num(190),
		`while i < 20 do local a = "a"; a = "b"; a = 1 == i; a = nil; t[i] = i; n = t[i] + n; i = i + 1; end return n + #t;`:   num(209),
		`for j = 1, 20 do local k = j == 3; if k then emit j; end k = not k; k = j; n = n + k; end return n;`:                  num(210),
	} {
		p, fault := compile.Make("function main() local t = {}; local i = 0; local n = 0; " + text + " end")
		if fault.Code != api.OK {
			t.Fatalf("%q: %+v", text, fault)
		}
		s, _ := machine.Begin(p)
		less := 0
		for s.End == api.EndFuel {
			if r, ok := record.Of(p, s, api.MaxIns); ok {
				better := all(p, r)
				u := holds(t, p, better)
				less += len(better.Ins) - len(u.Ins)
				for _, fuel := range []int{s.Steps, s.Steps + 20, s.Steps + 99, 2000} {
					got := nobodyTells(t, p, r, u, s, fuel)
					if want, _ := machine.Go(p, s, got.Steps); !sample.Same(got, want) {
						t.Fatalf("%q: %+v;\nthe machine: %+v", text, got, want)
					}
				}
			}
			s, _ = machine.Go(p, s, s.Steps+1)
		}
		if s.Last != last || less < 50 {
			t.Errorf("%q: %+v, %d orders less", text, s, less)
		}
	}
}

// O2: what Run refuses, it refuses alike.
func TestRefusesAlike(t *testing.T) {
	for number := range 200 {
		p := sample.Code(number)
		r := pick(p, number)
		u := holds(t, p, r)
		good := sample.StateAt(p, r.Fun, r.Head, number)
		done, wrong := sample.Copy(good), sample.Copy(good)
		done.End = api.EndDone
		wrong.Steps = -1
		for _, s := range []api.State{good, done, wrong, {}, sample.State(p, number), sample.State(p, number+1)} {
			for _, fuel := range []int{math.MinInt, -1, 0, 20, api.MaxFuel, api.MaxFuel + 1, math.MaxInt} {
				if fuel == api.MaxFuel && number%20 > 0 {
					continue
				}
				nobodyTells(t, p, r, u, s, fuel)
			}
		}
	}
}

// O1: traces by a fixed rule, with any one number changed.
func TestAnyNumber(t *testing.T) {
	found := map[bool]int{}
	for number := range 60 {
		p := sample.Code(number)
		r := pick(p, number)
		s := sample.StateAt(p, r.Fun, r.Head, number)
		for _, n := range sample.Numbers(&r) {
			was := *n
			for _, other := range []int{math.MinInt, -2, -1, 0, was - 1, was + 1, was + 3, 60001, math.MaxInt} {
				*n = other
				u := holds(t, p, r)
				nobodyTells(t, p, r, u, s, s.Steps+20)
				found[isZero(u)]++
			}
			*n = was
		}
	}
	if found[true] < 5000 || found[false] < 5000 {
		t.Errorf("too few of one kind: %v", found)
	}
}

// P3: what is handed in stays as it is, also behind the lists' lengths, and what is behind these counts for nothing.
func TestNothingChanged(t *testing.T) {
	for number := range 300 {
		p := sample.Code(number)
		r := pick(p, number)
		was, plain := sample.CopyTrace(r), dead.Of(p, r)
		for i, s := range r.Snaps {
			r.Snaps[i].Regs = append(s.Regs, 99)[:len(s.Regs)]
		}
		r.Ins = append(r.Ins, api.Ins{Op: 99})[:len(r.Ins)]
		r.Snaps = append(r.Snaps, api.Snap{PC: 99})[:len(r.Snaps)]
		if u := dead.Of(p, r); !sample.SameTrace(u, plain) || !sample.SameTrace(r, was) {
			t.Fatalf("changed: %d", number)
		}
		there := r.Ins[:len(r.Ins)+1][len(r.Ins)].Op == 99 && r.Snaps[:len(r.Snaps)+1][len(r.Snaps)].PC == 99
		for _, s := range r.Snaps {
			there = there && s.Regs[:len(s.Regs)+1][len(s.Regs)] == 99
		}
		if !there {
			t.Fatalf("changed behind a length: %d", number)
		}
	}
}

// P3: the answer shares no memory with what was handed in, its texts among it, nor with another answer; and no two of its lists share any.
func TestNothingShared(t *testing.T) {
	texts := 0
	apart := func(p api.Code, r api.Trace) {
		t.Helper()
		places := map[unsafe.Pointer]int{}
		fresh := func(many int, at unsafe.Pointer) {
			if many > 0 && places[at] != 0 {
				t.Fatalf("shared memory: %+v", r)
			}
			places[at]++
		}
		look := func(r api.Trace) {
			fresh(len(r.Ins), unsafe.Pointer(unsafe.SliceData(r.Ins)))
			fresh(len(r.Snaps), unsafe.Pointer(unsafe.SliceData(r.Snaps)))
			for _, s := range r.Snaps {
				fresh(len(s.Regs), unsafe.Pointer(unsafe.SliceData(s.Regs)))
			}
		}
		look(r)
		for _, o := range r.Ins {
			places[unsafe.Pointer(unsafe.StringData(o.V.S))]++
		}
		for range 2 {
			u := dead.Of(p, r)
			look(u)
			for _, o := range u.Ins {
				fresh(len(o.V.S), unsafe.Pointer(unsafe.StringData(o.V.S)))
				texts += len(o.V.S)
			}
		}
	}
	for number := range 300 {
		p := sample.Code(number)
		apart(p, pick(p, number))
	}
	apart(program(), round(regs(1, 2), val(text(sample.Longest())), val(text("ab")), val(text(sample.Longest()))))
	if texts == 0 {
		t.Error("no texts were tried")
	}
}

func FuzzOf(f *testing.F) {
	f.Add(1, 2, 3, 30, []byte{4, 1})
	f.Add(77, 5, 9, 7, []byte{})
	f.Fuzz(func(t *testing.T, number, which, state, fuel int, changes []byte) {
		p := sample.Code(number)
		r := pick(p, which)
		s := sample.StateAt(p, r.Fun, r.Head, state)
		nobodyTells(t, p, r, holds(t, p, r), s, s.Steps+int(uint(fuel)%100))
		for i, n := range changes {
			list := sample.Numbers(&r)
			*list[(i*31+which&1023)%len(list)] = int(int8(n))
			nobodyTells(t, p, r, holds(t, p, r), s, s.Steps+int(uint(fuel)%100))
		}
		nobodyTells(t, p, r, holds(t, p, r), s, fuel)
	})
}
