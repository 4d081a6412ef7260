package jit_test

import (
	"math"
	"slices"
	"testing"
	"unsafe"

	"packtrail/api"
	"packtrail/compile"
	"packtrail/jit"
	"packtrail/machine"
	"packtrail/record"
	"packtrail/sample"
	"packtrail/trace"
)

// head is where a loop begins anew.
type head struct{ fun, pc int }

// find gives the place of the trace of a head, -1 if there is none.
func find(kept []api.Trace, at head) int {
	return slices.IndexFunc(kept, func(r api.Trace) bool { return at == head{r.Fun, r.Head} })
}

// plain is Run, as Q3 and Q4 say it: by states alone, with traces as they were recorded. Which trace is dropped is chosen.
func plain(p api.Code, y api.Policy, fuel int, choose func(many int) int) (s api.State, st api.Stats) {
	counts, tries := map[head]int{}, map[head]int{}
	var kept []api.Trace
	s, _ = machine.Begin(p)
	for s.End == api.EndFuel && s.Steps < fuel {
		f := s.Frames[len(s.Frames)-1]
		if i := find(kept, head{f.Fun, f.PC}); i >= 0 {
			u, _ := trace.Run(p, kept[i], s, fuel)
			st.Inside += u.Steps - s.Steps
			if u.Steps > s.Steps {
				s = u
				continue
			}
		}
		s, _ = machine.Go(p, s, s.Steps+1)
		o := p.Funs[f.Fun].Code[f.PC]
		at := head{f.Fun, o.A}
		if o.Op != api.CLoop {
			continue
		}
		if counts[at]++; counts[at] != y.Hot {
			continue
		}
		counts[at] = 0
		if find(kept, at) >= 0 || y.Cache == 0 || tries[at] >= y.Tries {
			continue
		}
		tries[at]++
		st.Tried++
		r, ok := record.Of(p, s, y.Most)
		if !ok {
			continue
		}
		if len(kept) == y.Cache {
			i := choose(len(kept))
			kept = slices.Delete(kept, i, i+1)
		}
		kept = append(kept, r)
		st.Kept = max(st.Kept, len(kept))
	}
	return s, st
}

// mostWays is how many ways to drop traces are tried, where there is a choice.
const mostWays = 40

// mayBe tells whether some way to drop traces comes to such stats, or there are more ways than are tried. It answers how many ways there were.
func mayBe(p api.Code, y api.Policy, fuel int, got api.Stats) (is bool, ways int) {
	var path, of []int // what was chosen, each time of how many
	for ways = 1; ways <= mostWays; ways++ {
		at := 0
		of = of[:0]
		_, st := plain(p, y, fuel, func(many int) int {
			if at == len(path) {
				path = append(path, 0)
			}
			of = append(of, many)
			at++
			return path[at-1]
		})
		if st == got {
			return true, ways
		}
		for len(path) > 0 && path[len(path)-1] == of[len(path)-1]-1 {
			path = path[:len(path)-1]
		}
		if len(path) == 0 {
			return false, ways
		}
		path[len(path)-1]++
	}
	return true, ways
}

// runs asks Run, and holds its answer against Q2, Q3 and Q4.
func runs(t *testing.T, p api.Code, y api.Policy, fuel int) (api.State, api.Stats) {
	t.Helper()
	s, st := unseen(t, p, y, fuel)
	if is, ways := mayBe(p, y, fuel, st); !is {
		_, want := plain(p, y, fuel, func(int) int { return 0 })
		t.Fatalf("Run(%+v, %+v, %d): %+v; %d ways, one of them %+v", p, y, fuel, st, ways, want)
	}
	return s, st
}

// unseen asks Run, and holds its answer against Q2, and its stats against their bounds.
func unseen(t *testing.T, p api.Code, y api.Policy, fuel int) (api.State, api.Stats) {
	t.Helper()
	s, st, code := jit.Run(p, y, fuel)
	b, _ := machine.Begin(p)
	want, other := machine.Go(p, b, fuel)
	if code != api.OK || other != api.OK || !sample.Same(s, want) {
		t.Fatalf("Run(%+v, %+v, %d): %+v, %d;\nthe machine: %+v, %d", p, y, fuel, s, code, want, other)
	}
	if st.Kept < 0 || st.Kept > y.Cache || st.Kept > st.Tried || st.Tried*y.Hot > s.Steps || st.Inside < 0 || st.Inside > s.Steps-st.Kept*y.Hot {
		t.Fatalf("Run(%+v, %+v, %d): %+v of %d steps", p, y, fuel, st, s.Steps)
	}
	return s, st
}

// policy is one of a number, by a fixed rule; mostly heads are soon hot.
func policy(number int) api.Policy {
	n := int(uint(number) >> 1)
	return api.Policy{
		Hot:   []int{1, 2, 3, 5, 2, 9, 1}[n%7],
		Most:  []int{400, 200, 400, 100, 41, 7}[n/7%6],
		Cache: []int{20, 1, 2, 1, 3, 0, 5, 1}[n/3%8],
		Tries: []int{100, 3, 100, 1, 2, 10, 0}[n/5%7],
	}
}

// Q2 to Q4: programs by a fixed rule that go round loops often, with policies by a fixed rule; of each also where the fuel ends soon, and within the run.
func TestLoops(t *testing.T) {
	inside, steps := 0, 0
	kept, ends := map[int]int{}, map[int]int{}
	for number := range 500 {
		p, fault := compile.Make(sample.Loops(number))
		if fault.Code != api.OK {
			continue
		}
		for i := range 3 {
			y := policy(7*number + 13*i)
			s, st := runs(t, p, y, 900)
			kept[st.Kept]++
			ends[s.End]++
			inside += st.Inside
			steps += s.Steps
			runs(t, p, y, (number+301*i)%(s.Steps+1))
		}
	}
	if inside < steps/4 || len(kept) < 5 || ends[api.EndFuel] < 100 || ends[api.EndDone] < 100 || ends[api.EndFailed] < 100 {
		t.Errorf("too few: %d of %d steps, kept: %v, ends: %v", inside, steps, kept, ends)
	}
}

// Q2: the same programs, for long, with other policies.
func TestLong(t *testing.T) {
	inside, steps := 0, 0
	for number := range 1500 {
		p, fault := compile.Make(sample.Loops(number))
		if fault.Code != api.OK {
			continue
		}
		fuel := []int{3000, 10000}[number%2]
		if number%50 == 0 {
			fuel = api.MaxFuel
		}
		for i := range 3 {
			s, st := unseen(t, p, policy(5*number+i), fuel)
			inside += st.Inside
			steps += s.Steps
		}
	}
	if inside < steps/4 {
		t.Errorf("%d of %d steps", inside, steps)
	}
}

// Q2: wherever a run is stopped.
func TestEveryFuel(t *testing.T) {
	done := 0
	for number := 0; done < 40; number++ {
		p, fault := compile.Make(sample.Loops(number))
		if fault.Code != api.OK {
			continue
		}
		y := api.Policy{Hot: 1 + number%4, Most: api.MaxIns, Cache: 1 + number%3, Tries: 50}
		whole, st, _ := jit.Run(p, y, 700)
		if st.Inside < 100 {
			continue
		}
		done++
		for fuel := range whole.Steps + 2 {
			unseen(t, p, y, fuel)
		}
	}
}

// Q2 to Q4: programs in orders by a fixed rule, and programs in texts by another one; most of them do little.
func TestByRule(t *testing.T) {
	inside, tried := 0, 0
	for number := range 2000 {
		p := sample.Code(number)
		for i := range 3 {
			_, st := runs(t, p, policy(3*number+i), 60+number%60)
			inside += st.Inside
			tried += st.Tried
		}
	}
	for number := range 300 {
		p, fault := compile.Make(sample.Program(number))
		if fault.Code == api.OK {
			_, st := runs(t, p, policy(number), 1200)
			inside += st.Inside
			tried += st.Tried
		}
	}
	if inside < 10000 || tried < 500 {
		t.Errorf("%d steps, %d tried", inside, tried)
	}
}

// sameCode tells whether two programs are the same.
func sameCode(a, b api.Code) bool {
	return a.Main == b.Main && slices.EqualFunc(a.Funs, b.Funs, func(a, b api.Fn) bool {
		return a.Params == b.Params && a.Regs == b.Regs && slices.Equal(a.Consts, b.Consts) && slices.Equal(a.Code, b.Code)
	})
}

// looping are programs of Loops, and one with texts of its constants all over.
func looping() (list []api.Code) {
	for number := range 200 {
		if p, fault := compile.Make(sample.Loops(number)); fault.Code == api.OK {
			list = append(list, p)
		}
	}
	p, _ := compile.Make(`function main() local t = {}; local s = "ab"; local i = 0; while i < 30 do local k = "key" .. i; t[k] = "val"; t["abc"] = "abc"; emit "told"; emit s; i = i + 1; end return "last"; end`)
	return append(list, p)
}

// P3: what is handed in stays as it is, also behind the lists' lengths, and what is behind these counts for nothing; asked again, the answer is the same.
func TestNothingChanged(t *testing.T) {
	odd := api.Value{Kind: 99}
	for number, p := range looping() {
		y := policy(number)
		was := api.Code{Main: p.Main, Funs: slices.Clone(p.Funs)}
		for i, f := range p.Funs {
			was.Funs[i].Code, was.Funs[i].Consts = slices.Clone(f.Code), slices.Clone(f.Consts)
		}
		s, st, _ := jit.Run(p, y, 700)
		p.Funs = append(p.Funs, api.Fn{Regs: 99})[:len(p.Funs)]
		for i, f := range p.Funs {
			p.Funs[i].Code = append(f.Code, api.Instr{Op: 99})[:len(f.Code)]
			p.Funs[i].Consts = append(f.Consts, odd)[:len(f.Consts)]
		}
		u, other, _ := jit.Run(p, y, 700)
		if !sameCode(p, was) || !sample.Same(s, u) || st != other {
			t.Fatalf("changed: %d", number)
		}
		there := p.Funs[:len(p.Funs)+1][len(p.Funs)].Regs == 99
		for _, f := range p.Funs {
			there = there && f.Code[:len(f.Code)+1][len(f.Code)].Op == 99 && f.Consts[:len(f.Consts)+1][len(f.Consts)] == odd
		}
		if !there {
			t.Fatalf("changed behind a length: %d", number)
		}
	}
}

// P3: a state shares no memory with the program, its texts among it, nor with another answer; and no two of its lists share any.
func TestNothingShared(t *testing.T) {
	texts := 0
	for number, p := range looping() {
		seen := map[unsafe.Pointer]int{}
		fresh := func(many int, at unsafe.Pointer) {
			if many > 0 && seen[at] != 0 {
				t.Fatalf("shared memory: %d", number)
			}
			seen[at]++
		}
		text := func(s string) {
			fresh(len(s), unsafe.Pointer(unsafe.StringData(s)))
			texts += len(s)
		}
		list := func(vs []api.Value) {
			fresh(len(vs), unsafe.Pointer(unsafe.SliceData(vs)))
			for _, v := range vs {
				text(v.S)
			}
		}
		for _, f := range p.Funs {
			list(f.Consts)
		}
		for range 2 {
			s, _, _ := jit.Run(p, api.Policy{Hot: 2, Most: 400, Cache: 4, Tries: 9}, 900)
			fresh(len(s.Frames), unsafe.Pointer(unsafe.SliceData(s.Frames)))
			fresh(len(s.Tables), unsafe.Pointer(unsafe.SliceData(s.Tables)))
			fresh(len(s.Out), unsafe.Pointer(unsafe.SliceData(s.Out)))
			for _, f := range s.Frames {
				list(f.Regs)
			}
			for _, u := range s.Tables {
				list(u.Keys)
				list(u.Vals)
			}
			text(s.Last.S)
		}
	}
	if texts < 1000 {
		t.Errorf("%d bytes of texts only", texts)
	}
}

func FuzzRun(f *testing.F) {
	f.Add(1, 2, 400, 3, 5, 500, true)
	f.Add(77, 1, 40, 1, 100, 90, false)
	f.Fuzz(func(t *testing.T, number, hot, most, cache, tries, fuel int, texts bool) {
		p := sample.Code(number)
		if texts {
			var fault api.Fault
			if p, fault = compile.Make(sample.Loops(number)); fault.Code != api.OK {
				return
			}
		}
		part := func(n, many int) int { return int(uint(n) % uint(many)) }
		y := api.Policy{Hot: 1 + part(hot, 20), Most: 1 + part(most, 400), Cache: part(cache, 21), Tries: part(tries, 101)}
		runs(t, p, y, part(fuel, 1500))
		odd := api.Policy{Hot: hot, Most: most, Cache: cache, Tries: tries}
		if s, st, code := jit.Run(p, odd, fuel); may(odd, fuel) != (code == api.OK) || code != api.OK && (code != api.ErrRange || !isZero(s) || st != api.Stats{}) {
			t.Fatalf("with %+v, %d: %+v, %+v, %d", odd, fuel, s, st, code)
		}
	})
}

func isZero(s api.State) bool {
	return len(s.Frames)+len(s.Tables)+len(s.Out)+s.Steps+s.End+int(s.Err) == 0 && s.Last == api.Value{}
}

// may tells which numbers Run takes (Q1).
func may(y api.Policy, fuel int) bool {
	return fuel >= 0 && fuel <= 60000 && y.Hot >= 1 && y.Hot <= 60000 && y.Most >= 1 && y.Most <= 400 && y.Cache >= 0 && y.Cache <= 20 && y.Tries >= 0 && y.Tries <= 100
}

// edges are numbers around those between which something may be.
func edges(first, last int) []int {
	return []int{math.MinInt, -60000, -1, first - 1, first, first + 1, last - 1, last, last + 1, 2*last + 1, math.MaxInt}
}
