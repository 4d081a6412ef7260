package sample

import "packtrail/api"

// Kept is the trace of a number of a program that may be, by a fixed rule, in which things are set and got again and again, in few tables, under few keys; several of its orders may have the same table, or the same key. Each of them may be (J1).
func Kept(p api.Code, number int) api.Trace {
	w := &keeper{tracer: newTracer(p, number)}
	for range 1 + w.roll(3) {
		w.tables = append(w.tables, w.of(api.VTable))
	}
	for range 1 + w.roll(4) {
		w.keys = append(w.keys, w.fresh(w.key()))
	}
	for range w.roll(20) {
		w.step()
	}
	w.end()
	return w.Trace
}

// keeper makes a trace that keeps things in tables.
type keeper struct {
	*tracer
	tables, keys []int // orders that have such
}

// step makes an order, mostly one that sets or gets.
func (w *keeper) step() {
	switch w.roll(10) {
	case 0, 1, 2, 3:
		w.get(anyKind, w.any(w.tables), w.any(w.keys))
	case 4, 5, 6:
		w.set(w.any(w.tables), w.any(w.keys), w.of(anyKind))
	case 7:
		w.keys = append(w.keys, w.get(anyKind, w.any(w.tables), w.any(w.keys)))
	case 8:
		w.twin()
	default:
		w.tracer.step()
	}
}

// twin makes one more order that has one of the tables: it is put into a table, and got from there, perhaps behind something else that is set.
func (w *keeper) twin() {
	x, y := w.any(w.tables), w.any(w.keys)
	w.set(x, y, w.any(w.tables))
	for range w.roll(2) {
		w.set(w.any(w.tables), w.any(w.keys), w.of(anyKind))
	}
	w.tables = append(w.tables, w.get(api.VTable, x, y))
}

func (w *keeper) any(list []int) int { return list[w.roll(len(list))] }

func (w *keeper) get(kind, table, key int) int {
	return w.leaves(api.TGet, kind, table, key)
}

func (w *keeper) set(table, key, v int) {
	w.leaves(api.TSet, noValue, table, key, v)
}
