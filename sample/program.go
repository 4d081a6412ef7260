package sample

import (
	"cmp"
	"slices"
	"strconv"
	"strings"
)

// Program is the program of a number, by a fixed rule. Nearly all of them may be (E1); what they do is mostly of the right kinds, and mostly comes to an end.
func Program(number int) string {
	w := newWriter(number, 8)
	return w.beside(w.fun(fun{name: "main"}, w.funs))
}

// dice gives numbers that hang on the last one alone.
type dice uint64

func (d *dice) roll(n int) int {
	*d = *d*6364136223846793005 + 1442695040888963407
	return int(*d>>33) % n
}

// one takes one of the words.
func (d *dice) one(words string) string {
	list := strings.Fields(words)
	return list[d.roll(len(list))]
}

// fun is a function. Its name's first letter says what it mostly answers, each of its params what is mostly handed to it.
type fun struct {
	name   string
	params []string
}

// writer writes a program. A name's first letter says what it mostly is: n a number, i one that counts rounds, s a text, t a table, k a key.
type writer struct {
	dice
	rare  int      // of so many expressions one is of any kind
	funs  []fun    // all but main
	below []fun    // those that are called mostly, as a call of them comes back
	there []string // locals
	outer int      // how many of these are not of the innermost block
	made  int      // how many locals the function had so far
}

// newWriter has the functions beside main in mind, whose texts it has not written yet.
func newWriter(number, rare int) *writer {
	w := &writer{dice: dice(number), rare: rare << (uint(number) % 6)}
	for i := range w.roll(4) {
		f := fun{name: w.one("n n s t") + "f" + strconv.Itoa(i)}
		for range w.roll(4) {
			f.params = append(f.params, w.one("n n s t"))
		}
		w.funs = append(w.funs, f)
	}
	return w
}

// beside writes the program of a main, with the other functions anywhere beside it.
func (w *writer) beside(main string) string {
	texts := []string{main}
	for i, f := range w.funs {
		texts = slices.Insert(texts, w.roll(len(texts)+1), w.fun(f, w.funs[i+1:]))
	}
	return strings.Join(texts, " ")
}

// begin begins a function: no locals are there.
func (w *writer) begin(below []fun) {
	w.below, w.there, w.outer, w.made = below, nil, 0, 0
}

func (w *writer) fun(f fun, below []fun) string {
	w.begin(below)
	for _, letter := range f.params {
		w.there = append(w.there, w.fresh(letter))
	}
	head := "function " + f.name + "(" + strings.Join(w.there, ",") + ") "
	return head + w.stats(2) + "return " + w.likely(f.name[:1], 2) + "; end"
}

// fresh is a name that is not there yet, or, once in a while, that of a local of an outer block.
func (w *writer) fresh(letter string) string {
	if name := w.named(letter); w.roll(12) == 0 && name != "" && !slices.Contains(w.there[w.outer:], name) {
		return name
	}
	w.made++
	return letter + strconv.Itoa(w.made)
}

// block writes the statements of one within another, with names that are there in it alone.
func (w *writer) block(deep int, names ...string) string {
	before, outer := len(w.there), w.outer
	w.there, w.outer = append(w.there, names...), before
	s := w.stats(deep)
	w.there, w.outer = w.there[:before], outer
	return s
}

func (w *writer) stats(deep int) string {
	s := ""
	for range 1 + w.roll(3) {
		s += w.stat(deep) + " "
	}
	return s
}

// stat writes a statement, perhaps with others that go with it.
func (w *writer) stat(deep int) string {
	pick := w.roll(14)
	if deep == 0 {
		pick %= 8
	}
	switch pick {
	case 0, 1:
		return w.local(w.one("n n s t"))
	case 2, 3:
		return w.change(w.one("n n s k"))
	case 4, 5:
		return w.set()
	case 6:
		return "emit " + w.any(2) + ";"
	case 7:
		return w.does(w.one("n s t"))
	case 8:
		return "if " + w.cond(2) + " then " + w.block(deep-1) + "end"
	case 9:
		return "if " + w.cond(2) + " then " + w.block(deep-1) + "else " + w.block(deep-1) + "end"
	case 10:
		return "if " + w.cond(2) + " then " + w.block(deep-1) + "return " + w.any(2) + "; end"
	case 11:
		return w.while(deep)
	case 12:
		return w.keys(deep)
	}
	return w.count(deep)
}

func (w *writer) local(letter string) string {
	return w.makes(letter, w.likely(letter, 2))
}

// makes writes a local; it is there only behind its own expression.
func (w *writer) makes(letter, expr string) string {
	name := w.fresh(letter)
	w.there = append(w.there, name)
	return "local " + name + "=" + expr + ";"
}

// change sets a local, or makes one, if there is none.
func (w *writer) change(letter string) string {
	if name := w.named(letter); name != "" {
		return name + "=" + w.likely(letter, 3) + ";"
	}
	return w.local(letter)
}

// set puts something into a table, or takes it out again, or makes a table, if there is none.
func (w *writer) set() string {
	table, key := w.named("t"), w.named("k")
	switch {
	case table == "":
		return w.makes("t", "{}")
	case key != "" && w.roll(3) == 0:
		return table + "[" + key + "]=nil;"
	}
	return table + "[" + w.likely("k", 1) + "]=" + w.any(2) + ";"
}

// does calls a function, or makes a local, if there is none to be called.
func (w *writer) does(letter string) string {
	if call := w.call(letter, 1); call != "" {
		return call + ";"
	}
	return w.local(letter)
}

// while writes a loop that mostly ends soon.
func (w *writer) while(deep int) string {
	s := w.makes("n", w.one("0 1 2")) + " "
	name := w.there[len(w.there)-1]
	step := name + "=" + name + "+1; "
	if w.roll(w.rare) == 0 {
		step = ""
	}
	return s + "while " + name + "<" + w.one("1 2 3 4 5 20") + " do " + w.block(deep-1) + step + "end"
}

// keys goes through a table, which the statements within may change.
func (w *writer) keys(deep int) string {
	table := w.named("t")
	if table == "" {
		return w.makes("t", "{}")
	}
	s := w.makes("k", "next("+table+",nil)") + " "
	name := w.there[len(w.there)-1]
	step := name + "=next(" + table + "," + name + "); "
	return s + "while " + name + " do emit " + name + "; " + w.block(deep-1) + step + "end"
}

func (w *writer) count(deep int) string {
	head := w.likely("n", 0) + "," + w.likely("n", 1)
	name := w.fresh("i")
	return "for " + name + "=" + head + " do " + w.block(deep-1, name) + "end"
}

// named is a local with one of the letters, empty if there is none.
func (w *writer) named(letters string) string {
	var fit []string
	for _, name := range w.there {
		if strings.Contains(letters, name[:1]) {
			fit = append(fit, name)
		}
	}
	if len(fit) == 0 {
		return ""
	}
	return fit[w.roll(len(fit))]
}

// simple is mostly a local with one of the letters, else one of the words.
func (w *writer) simple(letters, words string) string {
	if name := w.named(letters); name != "" && w.roll(4) > 0 {
		return name
	}
	return w.one(words)
}

// likely writes an expression of the kind that a letter says, but for the rare one.
func (w *writer) likely(letter string, deep int) string {
	if w.roll(w.rare) == 0 {
		return w.any(deep)
	}
	switch letter {
	case "s":
		return w.text(deep)
	case "t":
		return w.table(deep)
	case "k":
		return w.likely(w.one("n n s"), deep)
	}
	return w.number(deep)
}

// any writes an expression of any kind.
func (w *writer) any(deep int) string {
	switch w.roll(9) {
	case 0:
		return w.one("nil true false")
	case 1:
		return w.cond(deep)
	case 2:
		return w.table(deep)
	case 3, 4:
		return w.text(deep)
	case 5:
		return w.all()[w.roll(len(w.funs)+1)].name
	}
	return w.number(deep)
}

func (w *writer) number(deep int) string {
	if deep == 0 {
		return w.simple("ni", "0 1 2 3 4 5 7 9")
	}
	switch w.roll(10) {
	case 0, 1, 2:
		return "(" + w.likely("n", deep-1) + w.one("+ - *") + "(" + w.likely("n", deep-1) + "))"
	case 3:
		return "(" + w.likely("n", deep-1) + w.one("/ %") + w.one("1 2 3 7 20 9223372036854775807 (0-3) 0") + ")"
	case 4:
		return "-(" + w.likely("n", deep-1) + ")"
	case 5:
		return "#" + w.likely(w.one("t s"), deep-1)
	case 6:
		return "(" + w.table(0) + "[" + w.likely("k", deep-1) + "] or " + w.likely("n", deep-1) + ")"
	case 7:
		return cmp.Or(w.call("n", deep), w.number(0))
	}
	return w.number(0)
}

func (w *writer) text(deep int) string {
	if deep == 0 {
		return w.simple("s", `"" "a" "b" "ab" "1"`)
	}
	if w.roll(4) == 0 {
		return cmp.Or(w.call("s", deep), w.text(0))
	}
	return "(" + w.likely("s", deep-1) + ".." + w.likely("k", deep-1) + ")"
}

func (w *writer) table(deep int) string {
	if deep > 0 && w.roll(4) == 0 {
		return cmp.Or(w.call("t", deep), "{}")
	}
	return w.simple("t", "{}")
}

func (w *writer) cond(deep int) string {
	if deep == 0 {
		return w.one("true false nil")
	}
	switch w.roll(8) {
	case 0:
		return "not " + w.any(deep-1)
	case 1:
		return "(" + w.cond(deep-1) + " " + w.one("and or") + " " + w.cond(deep-1) + ")"
	case 2:
		return "(" + w.any(deep-1) + "==" + w.any(deep-1) + ")"
	case 3:
		return "(" + w.likely("s", deep-1) + w.one("< <=") + w.likely("s", deep-1) + ")"
	}
	return "(" + w.likely("n", deep-1) + w.one("< <= ==") + w.likely("n", deep-1) + ")"
}

// call writes one that mostly answers what a letter says; empty, if there is no function for it. Rarely it is of another one, whose call may not come back, or of no function at all, with an argument too many.
func (w *writer) call(letter string, deep int) string {
	var fit []fun
	for _, f := range w.below {
		if f.name[:1] == letter {
			fit = append(fit, f)
		}
	}
	odd := w.roll(w.rare) == 0
	if odd {
		fit = append(w.all(), fun{name: w.simple("nikst", "main")})
	}
	if len(fit) == 0 {
		return ""
	}
	f := fit[w.roll(len(fit))]
	var args []string
	for _, p := range f.params {
		args = append(args, w.likely(p, max(0, deep-1)))
	}
	if odd {
		args = append(args, w.any(0))
	}
	return f.name + "(" + strings.Join(args, ",") + ")"
}

// all are the functions, main among them.
func (w *writer) all() []fun {
	return append(slices.Clone(w.funs), fun{name: "main"})
}
