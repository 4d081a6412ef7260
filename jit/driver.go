package jit

import (
	"packtrail/api"
	"packtrail/dead"
	"packtrail/fold"
	"packtrail/forward"
	"packtrail/machine"
	"packtrail/record"
	"packtrail/same"
	"packtrail/trace"
)

// driver has the machine go on, or a trace in its place.
type driver struct {
	*machine.Machine
	api.Policy
	api.Stats
	traces map[head]*trace.Runner // those that are kept
	counts map[head]int           // how often a CLoop went on there since the head was last hot
	tries  map[head]int           // how often the head was tried
	heads  []head                 // those of the traces that are kept, the oldest first
}

// head is an order of a function at which a loop begins anew.
type head struct{ fun, pc int }

func newDriver(m *machine.Machine, y api.Policy) *driver {
	return &driver{Machine: m, Policy: y, traces: map[head]*trace.Runner{}, counts: map[head]int{}, tries: map[head]int{}}
}

// drive goes on till the run ends or the fuel does. Where a trace is left ahead of its first step, the machine does that one: so each turn gets on.
func (d *driver) drive(fuel int) {
	for d.End == api.EndFuel && d.Steps < fuel {
		if !d.runTrace(fuel) {
			d.step()
		}
	}
}

// at is where the frame at work is.
func (d *driver) at() head {
	f := d.Top()
	return head{f.Fun, f.PC}
}

// runTrace runs the trace of where the machine is, if there is one, and tells whether that did any step.
func (d *driver) runTrace(fuel int) bool {
	r, is := d.traces[d.at()]
	if !is {
		return false
	}
	before := d.Steps
	r.Rounds(fuel)
	d.Inside += d.Steps - before
	return d.Steps > before
}

// step has the machine do an order, and counts where a loop went on.
func (d *driver) step() {
	o := d.Order()
	d.Step()
	if o.Op == api.CLoop {
		d.count(d.at())
	}
}

// count counts a head, and tries it each time that it is hot, if it may be tried.
func (d *driver) count(h head) {
	d.counts[h]++
	if d.counts[h] < d.Hot {
		return
	}
	d.counts[h] = 0
	if d.traces[h] == nil && d.Cache > 0 && d.tries[h] < d.Tries {
		d.try(h)
	}
}

// try records the round from a head on, where the machine is, and keeps a trace of it, if there is one.
func (d *driver) try(h head) {
	d.tries[h]++
	d.Tried++
	if t, ok := record.From(d.Machine, d.Most); ok {
		d.keep(h, better(t))
	}
}

// keep keeps a trace; where that is one too many, the oldest one goes.
func (d *driver) keep(h head, t api.Trace) {
	d.traces[h] = trace.On(d.Machine, t)
	d.heads = append(d.heads, h)
	if len(d.heads) > d.Cache {
		delete(d.traces, d.heads[0])
		d.heads = d.heads[1:]
	}
	d.Kept = max(d.Kept, len(d.traces))
}

// better gives a trace that does what another one does, with less.
func better(t api.Trace) api.Trace {
	return dead.Better(forward.Better(same.Better(fold.Better(t))))
}
