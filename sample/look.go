package sample

import (
	"slices"

	"packtrail/api"
)

// SameTrace tells whether two traces are the same; an empty list may be nil or not (P3).
func SameTrace(a, b api.Trace) bool {
	return a.Fun == b.Fun && a.Head == b.Head && slices.Equal(a.Ins, b.Ins) && slices.EqualFunc(a.Snaps, b.Snaps, func(a, b api.Snap) bool {
		return a.PC == b.PC && a.Steps == b.Steps && slices.Equal(a.Regs, b.Regs)
	})
}

// CopyTrace is a trace once more, in lists of its own.
func CopyTrace(t api.Trace) api.Trace {
	t.Ins, t.Snaps = slices.Clone(t.Ins), slices.Clone(t.Snaps)
	for i, s := range t.Snaps {
		t.Snaps[i].Regs = slices.Clone(s.Regs)
	}
	return t
}

// Numbers are the places of all numbers of a trace.
func Numbers(t *api.Trace) []*int {
	list := []*int{&t.Fun, &t.Head}
	for i := range t.Ins {
		o := &t.Ins[i]
		list = append(list, &o.Op, &o.X, &o.Y, &o.Z, &o.V.Kind, &o.Snap)
	}
	for i := range t.Snaps {
		s := &t.Snaps[i]
		list = append(list, &s.PC, &s.Steps)
		for j := range s.Regs {
			list = append(list, &s.Regs[j])
		}
	}
	return list
}
