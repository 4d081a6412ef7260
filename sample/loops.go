package sample

// Loops is the program of a number, by a fixed rule, whose main goes round loops often, one behind and one within the other. Most of them may be (E1).
func Loops(number int) string {
	w := newWriter(number, 60)
	return w.beside(w.loops())
}

// loops writes a main that goes round loops.
func (w *writer) loops() string {
	w.begin(w.funs)
	s := "function main() " + w.makes("n", "1") + w.makes("s", `"a"`) + w.makes("t", "{}")
	for range 1 + w.roll(3) {
		s += w.rounds(2)
	}
	return s + "return " + w.likely("n", 2) + "; end"
}

// rounds writes a loop that goes round often, perhaps with such loops in it. Its counter is one that nobody else sets.
func (w *writer) rounds(deep int) string {
	s := w.makes("i", "0")
	name := w.there[len(w.there)-1]
	before := len(w.there)
	s += "while " + name + "<" + w.one("3 7 20 40") + " do " + w.block(max(0, deep-1))
	for range min(deep, w.roll(3)) {
		s += w.rounds(deep - 1)
	}
	w.there = w.there[:before]
	return s + name + "=" + name + "+1; end "
}
