package rewrite_test

import (
	"slices"
	"testing"

	"packtrail/api"
	"packtrail/rewrite"
	"packtrail/sample"
	"packtrail/trace"
)

// A trace each of whose orders stays what it is is the same, in lists of its own.
func TestAsItIs(t *testing.T) {
	for number := range 500 {
		p := sample.Code(number)
		r := sample.Trace(p, number)
		was := sample.CopyTrace(r)
		u := rewrite.Each(r, (*rewrite.Maker).Add)
		if !sample.SameTrace(u, r) {
			t.Fatalf("%+v: %+v", r, u)
		}
		for _, n := range sample.Numbers(&u) {
			*n = 99
		}
		if !sample.SameTrace(r, was) {
			t.Fatalf("shared: %+v", was)
		}
	}
}

// An order may come ahead of another one; whoever asked for that one asks for it by its new number.
func TestMore(t *testing.T) {
	for number := range 500 {
		p := sample.Code(number)
		r := sample.Trace(p, number)
		u := rewrite.Each(r, func(m *rewrite.Maker, o api.Ins) int {
			m.Add(rewrite.Val(sample.Num(7)))
			return m.Add(o)
		})
		if len(u.Ins) != 2*len(r.Ins) || !trace.May(p, u) {
			t.Fatalf("%+v: %+v", r, u)
		}
		s := sample.StateAt(p, r.Fun, r.Head, number)
		got, _ := trace.Run(p, u, s, s.Steps+30)
		if want, _ := trace.Run(p, r, s, s.Steps+30); !sample.Same(got, want) {
			t.Fatalf("%+v: %+v;\n%+v: %+v", r, want, u, got)
		}
	}
}

// An order may be in another one's place, or none may.
func TestFewer(t *testing.T) {
	r := api.Trace{Fun: 3, Head: 4, Ins: []api.Ins{
		{Op: api.TReg, X: 5, Snap: -1}, {Op: api.TTrue}, {Op: api.TReg, X: 5, Snap: -1}, {Op: api.TKind, X: 2, Y: 2},
		{Op: api.TReg, X: 2, Snap: -1}, {Op: api.TSet, X: 4, Y: 2, Z: 0}, {Op: api.TOp + api.OpSub, X: 2, Y: 4}, {Op: api.TOp + api.OpNeg, X: 6},
	}, Snaps: []api.Snap{{PC: 1, Regs: []int{-1, 0}}, {PC: 2, Steps: 5, Regs: []int{7, 2}}, {PC: 4, Steps: 9, Regs: []int{4, 6}}}}
	u := rewrite.Each(r, func(m *rewrite.Maker, o api.Ins) int {
		switch same := slices.Index(m.Ins, o); {
		case o.Op == api.TTrue:
			return rewrite.Gone
		case same >= 0:
			return same
		}
		return m.Add(o)
	})
	want := api.Trace{Fun: 3, Head: 4, Ins: []api.Ins{
		{Op: api.TReg, X: 5, Snap: -1}, {Op: api.TKind, X: 0, Y: 2},
		{Op: api.TReg, X: 2, Snap: -1}, {Op: api.TSet, X: 2, Y: 0, Z: 0}, {Op: api.TOp + api.OpSub, X: 0, Y: 2}, {Op: api.TOp + api.OpNeg, X: 4},
	}, Snaps: []api.Snap{{PC: 1, Regs: []int{-1, 0}}, {PC: 2, Steps: 5, Regs: []int{5, 0}}, {PC: 4, Steps: 9, Regs: []int{2, 4}}}}
	if !sample.SameTrace(u, want) {
		t.Errorf("%+v", u)
	}
}

// A snapshot that names an order that is gone names none in its place.
func TestGone(t *testing.T) {
	r := api.Trace{Fun: 3, Head: 4, Ins: []api.Ins{
		{Op: api.TReg, X: 5, Snap: -1}, {Op: api.TReg, X: 2, Snap: -1}, {Op: api.TOp + api.OpNot}, {Op: api.TOp + api.OpNot, X: 1},
	}, Snaps: []api.Snap{{PC: 1, Regs: []int{0, 1, 2, -1}}, {PC: 4, Steps: 9, Regs: []int{-1, 1, -1, 3}}}}
	u := rewrite.Each(r, func(m *rewrite.Maker, o api.Ins) int {
		if o.X == 5 || o.X == rewrite.Gone {
			return rewrite.Gone
		}
		return m.Add(o)
	})
	want := api.Trace{Fun: 3, Head: 4, Ins: []api.Ins{
		{Op: api.TReg, X: 2, Snap: -1}, {Op: api.TOp + api.OpNot},
	}, Snaps: []api.Snap{{PC: 1, Regs: []int{-1, 0, -1, -1}}, {PC: 4, Steps: 9, Regs: []int{-1, 0, -1, 1}}}}
	if !sample.SameTrace(u, want) {
		t.Errorf("%+v", u)
	}
}
