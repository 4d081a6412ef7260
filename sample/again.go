package sample

import (
	"packtrail/api"
	"packtrail/trace"
)

// Again is a trace made of one that may be, by a fixed rule, in which some of its orders are there again further on, some by another snapshot; orders and snapshots behind ask for any of them. It may be, too.
func Again(t api.Trace, number int) api.Trace {
	w := &repeater{dice: dice(number), Trace: api.Trace{Fun: t.Fun, Head: t.Head}, from: t}
	for n, o := range t.Ins {
		w.places = append(w.places, nil)
		w.put(n, o.Snap)
		for w.roll(2) == 0 && len(w.Ins)+len(t.Ins)-n <= api.MaxIns {
			w.again(w.roll(n+1), w.roll(n+1))
		}
	}
	for i, s := range t.Snaps {
		w.Snaps = append(w.Snaps, w.snap(s, w.least(i)))
	}
	return w.Trace
}

// repeater makes a trace of another one.
type repeater struct {
	dice
	api.Trace
	from   api.Trace
	places [][]int // of each order of the other trace where it is here
}

// put puts an order of the other trace behind all others.
func (w *repeater) put(n, snap int) {
	o := w.from.Ins[n]
	for _, x := range trace.Asked(&o) {
		list := w.places[*x]
		*x = list[w.roll(len(list))]
	}
	o.Snap = snap
	w.places[n] = append(w.places[n], len(w.Ins))
	w.Ins = append(w.Ins, o)
}

// again puts an order that is there already behind all others: by the snapshot of another one, if it has one.
func (w *repeater) again(n, other int) {
	snap := w.from.Ins[n].Snap
	if by := w.from.Ins[other].Snap; snap >= 0 && by >= 0 {
		snap = by
	}
	w.put(n, snap)
}

// least is the first order that leaves by a snapshot, or how many orders there are, if none does.
func (w *repeater) least(snap int) int {
	for n, o := range w.Ins {
		if o.Snap == snap {
			return n
		}
	}
	return len(w.Ins)
}

// snap is a snapshot of the other trace, that asks for the latest orders below one.
func (w *repeater) snap(s api.Snap, below int) api.Snap {
	regs := make([]int, len(s.Regs))
	for reg, n := range s.Regs {
		regs[reg] = -1
		if n < 0 {
			continue
		}
		for _, place := range w.places[n] {
			if place < below {
				regs[reg] = place
			}
		}
	}
	s.Regs = regs
	return s
}
