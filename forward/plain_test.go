package forward_test

import (
	"math"
	"testing"
	"unsafe"

	"packtrail/api"
	"packtrail/compile"
	"packtrail/forward"
	"packtrail/machine"
	"packtrail/record"
	"packtrail/same"
	"packtrail/sample"
	"packtrail/trace"
)

func isZero(r api.Trace) bool {
	return r.Fun == 0 && r.Head == 0 && len(r.Ins) == 0 && len(r.Snaps) == 0
}

// holds asks Of, and holds the answer against N1 and N3.
func holds(t *testing.T, p api.Code, r api.Trace) api.Trace {
	t.Helper()
	u := forward.Of(p, r)
	if !trace.May(p, r) {
		if !isZero(u) {
			t.Fatalf("Of(%+v, %+v): %+v", p, r, u)
		}
		return u
	}
	if !trace.May(p, u) || u.Fun != r.Fun || u.Head != r.Head || len(u.Ins) > len(r.Ins) || len(u.Snaps) > len(r.Snaps) || u.Snaps[len(u.Snaps)-1].Steps != r.Snaps[len(r.Snaps)-1].Steps {
		t.Fatalf("Of(%+v, %+v): %+v", p, r, u)
	}
	for i, o := range u.Ins {
		if j := known(u.Ins[:i], o); j >= 0 {
			t.Fatalf("Of(%+v, %+v): %+v: the order %d gets what is known by %d", p, r, u, i, j)
		}
	}
	return u
}

// known is the order, of those ahead, by which it is known what a TGet gets (N3), or -1.
func known(ahead []api.Ins, o api.Ins) int {
	for j := len(ahead) - 1; j >= 0 && o.Op == api.TGet; j-- {
		a := ahead[j]
		if (a.Op == api.TSet || a.Op == api.TGet) && a.X == o.X && a.Y == o.Y {
			return j
		}
		if a.Op == api.TSet {
			return -1
		}
	}
	return -1
}

// nobodyTells holds what a trace answers against what another one does (N2).
func nobodyTells(t *testing.T, p api.Code, r, u api.Trace, s api.State, fuel int) api.State {
	t.Helper()
	want, code := trace.Run(p, r, s, fuel)
	got, other := trace.Run(p, u, s, fuel)
	if other != code || !sample.Same(got, want) {
		t.Fatalf("%+v of %+v\nfrom %+v\nwith %d: %+v, %d;\n%+v: %+v, %d", u, p, s, fuel, got, other, r, want, code)
	}
	return got
}

// count adds up how many orders of each Op there are.
func count(r api.Trace) map[int]int {
	many := map[int]int{}
	for _, o := range r.Ins {
		many[o.Op]++
	}
	return many
}

// pick is one of the traces of a number: as it comes, with orders that are there again, and of one kind or the other that has more to do with tables.
func pick(p api.Code, number int) api.Trace {
	r := sample.Kept(p, number)
	if number&1 == 0 {
		r = sample.Trace(p, number)
	}
	if number&2 == 0 {
		r = sample.Again(r, number)
	}
	return r
}

// N1 to N3: traces by a fixed rule from states by a fixed rule; TGets go, both behind a TSet and behind a TGet, nothing else does.
func TestByRule(t *testing.T) {
	gone, left, by := map[int]int{}, map[int]int{}, map[int]int{}
	rounds, outs := 0, 0
	for number := range 1500 {
		p := sample.Code(number)
		for i := range 4 {
			r := pick(p, 4*number+i)
			if !trace.May(p, r) {
				t.Fatalf("may not be: %+v", r)
			}
			u := holds(t, p, r)
			now := count(u)
			for op, many := range count(r) {
				gone[op] += many - now[op]
				left[op] += now[op]
			}
			for n, o := range r.Ins {
				if j := known(r.Ins[:n], o); j >= 0 {
					by[r.Ins[j].Op]++
				}
			}
			end := r.Snaps[len(r.Snaps)-1].Steps
			for j := range 4 {
				s := sample.StateAt(p, r.Fun, r.Head, 16*number+4*i+j)
				if got := nobodyTells(t, p, r, u, s, s.Steps+j*end+i); j > 0 && got.Steps+end > s.Steps+j*end+i {
					rounds++
				} else {
					outs++
				}
			}
		}
	}
	for op := api.TReg; op <= api.TOp+api.OpNeg; op++ {
		if (op <= api.TFalse || op > api.TOp) && (left[op] < 100 || op != api.TGet && gone[op] != 0) {
			t.Errorf("the order %d: %d gone, %d left", op, gone[op], left[op])
		}
	}
	if gone[api.TGet] < 3000 || by[api.TGet] < 1000 || by[api.TSet] < 1000 || rounds < 3000 || outs < 3000 {
		t.Errorf("%d gone, by %v; %d done, %d left", gone[api.TGet], by, rounds, outs)
	}
}

// N1 to N3: rounds by a fixed rule, recorded, as they are and with orders that are there again; from the state itself the round is done still.
func TestRecorded(t *testing.T) {
	for number := range 500 {
		p, s, steps := sample.Round(number)
		r, ok := record.Of(p, s, api.MaxIns)
		if !ok {
			t.Fatalf("not recorded: %d", number)
		}
		double := sample.Again(r, number)
		u, v := holds(t, p, r), holds(t, p, double)
		for rounds := range 4 {
			if got := nobodyTells(t, p, r, u, s, s.Steps+rounds*steps); rounds == 1 && got.Steps != s.Steps+steps {
				t.Fatalf("not done: %d", number)
			}
			nobodyTells(t, p, double, v, s, s.Steps+rounds*steps)
			other := sample.StateAt(p, r.Fun, r.Head, 4*number+rounds)
			nobodyTells(t, p, r, u, other, other.Steps+rounds*steps)
			nobodyTells(t, p, double, v, other, other.Steps+rounds*steps)
		}
	}
}

// N1 to N3: programs by a fixed rule, compiled, and recorded at each step; as they are, and without what was done already.
func TestPrograms(t *testing.T) {
	recorded := 0
	for number := range 200 {
		p, fault := compile.Make(sample.Program(number))
		if fault.Code != api.OK {
			continue
		}
		s, _ := machine.Begin(p)
		for s.End == api.EndFuel && s.Steps < 120 {
			if r, ok := record.Of(p, s, api.MaxIns); ok {
				recorded++
				u, v := holds(t, p, r), holds(t, p, same.Of(p, r))
				end := r.Snaps[len(r.Snaps)-1].Steps
				for _, more := range []int{end - 1, end, 3 * end, 9 * end} {
					nobodyTells(t, p, r, u, s, s.Steps+more)
					nobodyTells(t, p, r, v, s, s.Steps+more)
				}
				other := sample.StateAt(p, r.Fun, r.Head, number)
				nobodyTells(t, p, r, u, other, other.Steps+2*end)
				nobodyTells(t, p, r, v, other, other.Steps+2*end)
			}
			s, _ = machine.Go(p, s, s.Steps+1)
		}
	}
	if recorded < 500 {
		t.Errorf("%d recorded", recorded)
	}
}

// N2 and N3: programs that set and get at few places, once what was done already is gone: they get less, and do what the machine does.
func TestTexts(t *testing.T) {
	for text, last := range map[string]api.Value{
		`t[k] = 0; while i < 30 do t[k] = t[k] + i; if t[k] < 100 then emit t[k]; end i = i + 1; end return t[k];`:                                            num(435),
		`t[1] = 1; t[2] = 1; while i < 20 do local n = t[1] + t[2]; t[1] = t[2]; t[2] = n; emit t[2]; i = i + 1; end return t[1];`:                            num(10946),
		`t[k] = t; while i < 20 do t[k][i] = i; emit t[k][i]; t[i] = t[k][i] + 1; emit t[i]; i = i + 1; end return t[19];`:                                    num(20),
		`local u = t; t[k] = "a"; while i < 20 do emit t[k]; u[k] = t[k] .. i; emit u[k]; emit t[k]; u[k] = "b"; i = i + 1; end return t[k];`:                 sample.Text("b"),
		`while i < 20 do t[k] = nil; if t[k] == nil then t[k] = i; end emit t[k]; t[t[k]] = t[k]; t[i] = nil; emit t[t[k]]; i = i + 1; end return t[k] + #t;`: num(19),
	} {
		p, fault := compile.Make("function main() local t = {}; local i = 0; local k = \"key\"; " + text + " end")
		if fault.Code != api.OK {
			t.Fatalf("%q: %+v", text, fault)
		}
		s, _ := machine.Begin(p)
		less := 0
		for s.End == api.EndFuel {
			if r, ok := record.Of(p, s, api.MaxIns); ok {
				once := same.Of(p, r)
				u := holds(t, p, once)
				less += count(once)[api.TGet] - count(u)[api.TGet]
				for _, fuel := range []int{s.Steps, s.Steps + 20, s.Steps + 99, 2000} {
					got := nobodyTells(t, p, r, u, s, fuel)
					if want, _ := machine.Go(p, s, got.Steps); !sample.Same(got, want) {
						t.Fatalf("%q: %+v;\nthe machine: %+v", text, got, want)
					}
				}
			}
			s, _ = machine.Go(p, s, s.Steps+1)
		}
		if s.Last != last || less < 50 {
			t.Errorf("%q: %+v, %d TGets less", text, s, less)
		}
	}
}

// N2: what Run refuses, it refuses alike.
func TestRefusesAlike(t *testing.T) {
	for number := range 200 {
		p := sample.Code(number)
		r := pick(p, number)
		u := holds(t, p, r)
		good := sample.StateAt(p, r.Fun, r.Head, number)
		done, wrong := sample.Copy(good), sample.Copy(good)
		done.End = api.EndDone
		wrong.Steps = -1
		for _, s := range []api.State{good, done, wrong, {}, sample.State(p, number), sample.State(p, number+1)} {
			for _, fuel := range []int{math.MinInt, -1, 0, 20, api.MaxFuel, api.MaxFuel + 1, math.MaxInt} {
				if fuel == api.MaxFuel && number%20 > 0 {
					continue
				}
				nobodyTells(t, p, r, u, s, fuel)
			}
		}
	}
}

// N1: traces by a fixed rule, with any one number changed.
func TestAnyNumber(t *testing.T) {
	found := map[bool]int{}
	for number := range 60 {
		p := sample.Code(number)
		r := pick(p, number)
		s := sample.StateAt(p, r.Fun, r.Head, number)
		for _, n := range sample.Numbers(&r) {
			was := *n
			for _, other := range []int{math.MinInt, -2, -1, 0, was - 1, was + 1, was + 3, 60001, math.MaxInt} {
				*n = other
				u := holds(t, p, r)
				nobodyTells(t, p, r, u, s, s.Steps+20)
				found[isZero(u)]++
			}
			*n = was
		}
	}
	if found[true] < 5000 || found[false] < 5000 {
		t.Errorf("too few of one kind: %v", found)
	}
}

// P3: what is handed in stays as it is, also behind the lists' lengths, and what is behind these counts for nothing.
func TestNothingChanged(t *testing.T) {
	for number := range 300 {
		p := sample.Code(number)
		r := pick(p, number)
		was, plain := sample.CopyTrace(r), forward.Of(p, r)
		for i, s := range r.Snaps {
			r.Snaps[i].Regs = append(s.Regs, 99)[:len(s.Regs)]
		}
		r.Ins = append(r.Ins, api.Ins{Op: 99})[:len(r.Ins)]
		r.Snaps = append(r.Snaps, api.Snap{PC: 99})[:len(r.Snaps)]
		if u := forward.Of(p, r); !sample.SameTrace(u, plain) || !sample.SameTrace(r, was) {
			t.Fatalf("changed: %d", number)
		}
		there := r.Ins[:len(r.Ins)+1][len(r.Ins)].Op == 99 && r.Snaps[:len(r.Snaps)+1][len(r.Snaps)].PC == 99
		for _, s := range r.Snaps {
			there = there && s.Regs[:len(s.Regs)+1][len(s.Regs)] == 99
		}
		if !there {
			t.Fatalf("changed behind a length: %d", number)
		}
	}
}

// P3: the answer shares no memory with what was handed in, its texts among it, nor with another answer; and no two of its lists share any.
func TestNothingShared(t *testing.T) {
	texts := 0
	apart := func(p api.Code, r api.Trace) {
		t.Helper()
		places := map[unsafe.Pointer]int{}
		fresh := func(many int, at unsafe.Pointer) {
			if many > 0 && places[at] != 0 {
				t.Fatalf("shared memory: %+v", r)
			}
			places[at]++
		}
		look := func(r api.Trace) {
			fresh(len(r.Ins), unsafe.Pointer(unsafe.SliceData(r.Ins)))
			fresh(len(r.Snaps), unsafe.Pointer(unsafe.SliceData(r.Snaps)))
			for _, s := range r.Snaps {
				fresh(len(s.Regs), unsafe.Pointer(unsafe.SliceData(s.Regs)))
			}
		}
		look(r)
		for _, o := range r.Ins {
			places[unsafe.Pointer(unsafe.StringData(o.V.S))]++
		}
		for range 2 {
			u := forward.Of(p, r)
			look(u)
			for _, o := range u.Ins {
				fresh(len(o.V.S), unsafe.Pointer(unsafe.StringData(o.V.S)))
				texts += len(o.V.S)
			}
		}
	}
	for number := range 300 {
		p := sample.Code(number)
		apart(p, pick(p, number))
	}
	apart(program(), round(regs(1, 2), val(text(sample.Longest())), val(text("ab")), val(text(sample.Longest()))))
	if texts == 0 {
		t.Error("no texts were tried")
	}
}

func FuzzOf(f *testing.F) {
	f.Add(1, 2, 3, 30, []byte{4, 1})
	f.Add(77, 5, 9, 7, []byte{})
	f.Fuzz(func(t *testing.T, number, which, state, fuel int, changes []byte) {
		p := sample.Code(number)
		r := pick(p, which)
		s := sample.StateAt(p, r.Fun, r.Head, state)
		nobodyTells(t, p, r, holds(t, p, r), s, s.Steps+int(uint(fuel)%100))
		for i, n := range changes {
			list := sample.Numbers(&r)
			*list[(i*31+which&1023)%len(list)] = int(int8(n))
			nobodyTells(t, p, r, holds(t, p, r), s, s.Steps+int(uint(fuel)%100))
		}
		nobodyTells(t, p, r, holds(t, p, r), s, fuel)
	})
}
