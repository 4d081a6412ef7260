package machine_test

import (
	"math"
	"strings"
	"testing"

	"packtrail/api"
	"packtrail/machine"
	"packtrail/sample"
)

// three is a state with a frame of each function of program, that of main in the middle.
func three() api.State {
	s := ahead(num(1), text("a"), tab(1), fun(2))
	s.Frames = []api.Frame{
		{Fun: 2, Regs: []api.Value{yes}},
		s.Frames[0],
		{Fun: 0, PC: 1, Dest: 5, Regs: []api.Value{none, tab(0), fun(0), num(3)}},
	}
	return s
}

// may changes the state three, and asks whether that may be.
func may(t *testing.T, what string, want bool, change func(s *api.State)) {
	t.Helper()
	s := three()
	change(&s)
	if machine.May(program(order(api.CNew, 0)), s) != want {
		t.Errorf("%s: May is %v", what, !want)
	}
}

// H1: the program itself may be.
func TestMayProgram(t *testing.T) {
	may(t, "as it is", true, func(s *api.State) {})
	for _, p := range []api.Code{{}, program(order(99)), program(order(api.CNew, 6)), {Funs: program(order(api.CNew, 0)).Funs}} {
		if machine.May(p, three()) {
			t.Errorf("May of %v", p)
		}
	}
}

// H1: from 1 to MaxCalls frames.
func TestMayFrames(t *testing.T) {
	for _, n := range []int{0, 1, 2, 39, 40, 41, 100} {
		may(t, "frames", n >= 1 && n <= 40, func(s *api.State) {
			s.Frames = nil
			for range n {
				s.Frames = append(s.Frames, api.Frame{Fun: 2, Regs: []api.Value{yes}})
			}
		})
	}
}

// H1: each frame is of a function of the program, at one of its orders, with just its registers.
func TestMayFrame(t *testing.T) {
	orders, regs := []int{1, 5, 2}, []int{1, 6, 4}
	for i := range 3 {
		for _, n := range []int{math.MinInt, -1, 0, 1, 2, 3, math.MaxInt} {
			is := three().Frames[i].Fun
			may(t, "Fun", n == is, func(s *api.State) { s.Frames[i].Fun = n })
		}
		for _, n := range []int{math.MinInt, -1, 0, 1, 2, 3, 4, 5, 6, math.MaxInt} {
			may(t, "PC", n >= 0 && n < orders[i], func(s *api.State) { s.Frames[i].PC = n })
		}
		for n := range 9 {
			may(t, "Regs", n == regs[i], func(s *api.State) { s.Frames[i].Regs = make([]api.Value, n) })
		}
	}
	may(t, "Fun beyond", false, func(s *api.State) { s.Frames[0] = api.Frame{Fun: 3, Regs: []api.Value{yes}} })
}

// H1: Dest is 0 in the first frame, in each other one a register of the frame below it.
func TestMayDest(t *testing.T) {
	ends := []int{1, 1, 6}
	for i, end := range ends {
		for _, n := range []int{math.MinInt, -1, 0, 1, 3, 4, 5, 6, math.MaxInt} {
			may(t, "Dest", n >= 0 && n < end, func(s *api.State) { s.Frames[i].Dest = n })
		}
	}
}

// H1: at most MaxTables tables.
func TestMayManyTables(t *testing.T) {
	for _, n := range []int{2, 3, 199, 200, 201, 1000} {
		may(t, "tables", n <= 200, func(s *api.State) { s.Tables = append(s.Tables, make([]api.Table, n-2)...) })
	}
}

// H1: each table may be.
func TestMayTable(t *testing.T) {
	one := []api.Value{num(1)}
	for i := range 2 {
		for _, bad := range []api.Table{
			{Keys: one}, {Vals: one}, {Keys: []api.Value{num(1), num(1)}, Vals: []api.Value{yes, no}},
			{Keys: []api.Value{none}, Vals: one}, {Keys: one, Vals: []api.Value{none}},
		} {
			may(t, "a table", false, func(s *api.State) { s.Tables[i] = bad })
		}
		for _, n := range []int{0, 1, 99, 100, 101} {
			may(t, "keys", n <= 100, func(s *api.State) {
				s.Tables[i] = api.Table{}
				for k := range n {
					s.Tables[i].Keys = append(s.Tables[i].Keys, num(int64(k)))
					s.Tables[i].Vals = append(s.Tables[i].Vals, yes)
				}
			})
		}
	}
}

// H1: values in registers and tables, and Last of a run that is done: each may be; a table is one of Tables, a function one of the program's.
func TestMayValues(t *testing.T) {
	places := map[string]func(s *api.State, v api.Value){
		"the first frame's": func(s *api.State, v api.Value) { s.Frames[0].Regs[0] = v },
		"main's":            func(s *api.State, v api.Value) { s.Frames[1].Regs[5] = v },
		"the last frame's":  func(s *api.State, v api.Value) { s.Frames[2].Regs[3] = v },
		"a key":             func(s *api.State, v api.Value) { s.Tables[1].Keys[1] = v },
		"a value":           func(s *api.State, v api.Value) { s.Tables[1].Vals[2] = v },
		"the last":          func(s *api.State, v api.Value) { s.End, s.Last = api.EndDone, v },
	}
	for name, put := range places {
		in := name == "a key" || name == "a value"
		ask := func(v api.Value, want bool) {
			t.Helper()
			may(t, name, want, func(s *api.State) { put(s, v) })
		}
		for _, v := range sample.Good() {
			there := v.Kind == api.VTable && v.N < 2 || v.Kind == api.VFun && v.N < 3 || v.Kind < api.VTable
			twice := name == "a key" && v == num(1) || in && v == none
			ask(v, there && !twice)
		}
		for _, v := range sample.Bad() {
			ask(v, false)
		}
		for n := range int64(6) {
			ask(tab(n), n < 2)
			ask(fun(n), n < 3)
		}
	}
	may(t, "a table where there is none", false, func(s *api.State) { s.Tables = nil })
}

// H1: Steps is from 0 to MaxFuel, and at least as many as texts were told; none of these is too long.
func TestMayTold(t *testing.T) {
	for _, steps := range []int{math.MinInt, -1, 0, 1, 2, 3, 59999, 60000, 60001, math.MaxInt} {
		for told := range 4 {
			may(t, "Steps", steps >= told && steps <= 60000, func(s *api.State) { s.Steps, s.Out = steps, make([]string, told) })
		}
	}
	for _, long := range []int{0, 299, 300, 301, 5000} {
		for i := range 3 {
			may(t, "a text", long <= 300, func(s *api.State) {
				s.Out = make([]string, 3)
				s.Out[i] = strings.Repeat("a", long)
			})
		}
	}
}

// H1: how the run ended, and what goes with that.
func TestMayEnd(t *testing.T) {
	for _, end := range []int{math.MinInt, -1, api.EndFuel, api.EndDone, api.EndFailed, 3, math.MaxInt} {
		for _, code := range []api.Errno{math.MinInt, -1, 0, 1, 2, 3, 4, 5, 6, 7, 8, math.MaxInt} {
			for _, last := range []api.Value{none, no, num(0), tab(0)} {
				want := end == api.EndFuel && code == 0 && last == none ||
					end == api.EndDone && code == 0 ||
					end == api.EndFailed && (code == 1 || code == 3 || code == 4 || code == 7) && last == none
				may(t, "End", want, func(s *api.State) { s.End, s.Err, s.Last = end, code, last })
			}
		}
	}
	may(t, "an odd nil as Last", false, func(s *api.State) { s.Last = api.Value{N: 1} })
	may(t, "an odd nil as Last", false, func(s *api.State) { s.End, s.Err, s.Last = api.EndFailed, api.ErrKind, api.Value{S: "a"} })
}
