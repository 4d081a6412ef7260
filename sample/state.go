package sample

import (
	"slices"
	"strings"

	"packtrail/api"
)

// State is the state of a number of a program that may be, by a fixed rule. Each of them may be (H1), and goes on; once in a while there is as much of something as there may be, or one less.
func State(p api.Code, number int) api.State {
	d := dice(number)
	s := api.State{Tables: make([]api.Table, d.most(4, api.MaxTables))}
	for i := range s.Tables {
		s.Tables[i] = d.filled(p, s)
	}
	dests := 1
	for range max(1, d.most(4, api.MaxCalls)) {
		f := api.Frame{Fun: d.roll(len(p.Funs)), Dest: d.roll(dests)}
		f.PC = d.roll(len(p.Funs[f.Fun].Code))
		for range p.Funs[f.Fun].Regs {
			f.Regs = append(f.Regs, d.there(p, s))
		}
		dests = len(f.Regs)
		s.Frames = append(s.Frames, f)
	}
	for range d.roll(3) {
		s.Out = append(s.Out, d.one("a nil 7"))
	}
	s.Steps = len(s.Out) + d.roll(9)
	return s
}

// most is below few, but once in a while many, or one less.
func (d *dice) most(few, many int) int {
	if d.roll(20) == 0 {
		return many - d.roll(2)
	}
	return d.roll(few)
}

// filled is a table of a state: mostly some numbers from 1 on are keys of it.
func (d *dice) filled(p api.Code, s api.State) api.Table {
	var t api.Table
	put := func(k, v api.Value) {
		for _, key := range t.Keys {
			if key == k {
				return
			}
		}
		if k.Kind != api.VNil && v.Kind != api.VNil && len(t.Keys) < api.MaxKeys {
			t.Keys, t.Vals = append(t.Keys, k), append(t.Vals, v)
		}
	}
	for range d.roll(3) {
		put(d.there(p, s), d.there(p, s))
	}
	for i := range d.most(4, api.MaxKeys) {
		put(Num(int64(i+1)), d.there(p, s))
	}
	return t
}

// there is a value that may stand in a state.
func (d *dice) there(p api.Code, s api.State) api.Value {
	switch d.roll(8) {
	case 0, 1:
		if len(s.Tables) > 0 {
			return Tab(int64(d.roll(len(s.Tables))))
		}
	case 2:
		return Text(strings.Repeat(d.one("a b ab 1"), d.most(2, api.MaxLong/2)))
	}
	return d.constant(len(p.Funs))
}

// StateAt is the state of a number, as State has it, but for its last frame, which is of that function, at that order.
func StateAt(p api.Code, fun, pc, number int) api.State {
	s, d := State(p, number), dice(number)
	f := &s.Frames[len(s.Frames)-1]
	f.Fun, f.PC, f.Regs = fun, pc, nil
	for range p.Funs[fun].Regs {
		f.Regs = append(f.Regs, d.there(p, s))
	}
	return s
}

// Same tells whether two states are the same; an empty list may be nil or not (P3).
func Same(a, b api.State) bool {
	return slices.EqualFunc(a.Frames, b.Frames, sameFrame) && slices.EqualFunc(a.Tables, b.Tables, sameTable) &&
		slices.Equal(a.Out, b.Out) && a.Steps == b.Steps && a.End == b.End && a.Err == b.Err && a.Last == b.Last
}

func sameFrame(a, b api.Frame) bool {
	return a.Fun == b.Fun && a.PC == b.PC && a.Dest == b.Dest && slices.Equal(a.Regs, b.Regs)
}

func sameTable(a, b api.Table) bool {
	return slices.Equal(a.Keys, b.Keys) && slices.Equal(a.Vals, b.Vals)
}

// Copy is a state once more, in lists of its own.
func Copy(s api.State) api.State {
	s.Frames, s.Tables, s.Out = slices.Clone(s.Frames), slices.Clone(s.Tables), slices.Clone(s.Out)
	for i := range s.Frames {
		s.Frames[i].Regs = slices.Clone(s.Frames[i].Regs)
	}
	for i, t := range s.Tables {
		s.Tables[i] = api.Table{Keys: slices.Clone(t.Keys), Vals: slices.Clone(t.Vals)}
	}
	return s
}
