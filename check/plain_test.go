package check_test

import (
	"cmp"
	"slices"
	"strconv"
	"strings"
	"testing"

	"packtrail/api"
	"packtrail/check"
	"packtrail/syntax"
)

// place is a node of a program that is laid flat: up is the number of the node that has it, end that of the first node behind it and all below it.
type place struct {
	api.Node
	up, end int
}

// flat is a program's nodes, by number. What chapter 5 says is asked of each of them on its own: nothing is kept from one to the next.
type flat []place

func (f *flat) lay(n api.Node, up int) {
	at := len(*f)
	*f = append(*f, place{Node: n, up: up})
	for _, kid := range n.Kids {
		f.lay(kid, at)
	}
	(*f)[at].end = len(*f)
}

// kids are the numbers of a node's kids.
func (f flat) kids(at int) []int {
	var kids []int
	for i := range f {
		if i > 0 && f[i].up == at {
			kids = append(kids, i)
		}
	}
	return kids
}

// home is the block whose local a node makes, 0 if it makes none.
func (f flat) home(at int) int {
	switch f[at].Kind {
	case api.NParam:
		kids := f.kids(f[at].up)
		return kids[len(kids)-1]
	case api.NFor:
		return f.kids(at)[2]
	case api.NLocal:
		return f[at].up
	}
	return 0
}

// isThere tells whether the local that a node makes is there at another one.
func (f flat) isThere(maker, at int) bool {
	home := f.home(maker)
	if home == 0 || at >= f[home].end {
		return false
	}
	if f[maker].Kind == api.NFor {
		return at >= home
	}
	return at >= f[maker].end
}

// makers are the nodes whose locals are there at a node.
func (f flat) makers(at int) []int {
	var makers []int
	for i := range at {
		if f.isThere(i, at) {
			makers = append(makers, i)
		}
	}
	return makers
}

// named is the node whose local an NName is, or the function that it is, or 0.
func (f flat) named(at int) int {
	innermost := 0
	for _, i := range f.makers(at) {
		if f[i].Text == f[at].Text && (innermost == 0 || f.home(i) >= f.home(innermost)) {
			innermost = i
		}
	}
	if innermost > 0 {
		return innermost
	}
	return f.function(f[at].Text)
}

// function is the first one of a name, or 0.
func (f flat) function(name string) int {
	return max(0, slices.IndexFunc(f, func(p place) bool { return p.Kind == api.NFun && p.Text == name }))
}

// ahead is how many functions are ahead of one.
func (f flat) ahead(fun int) int {
	return slices.Index(f.kids(0), fun)
}

// fault is the first of a node's own.
func (f flat) fault(at int) api.Errno {
	makers := f.makers(at)
	sameHome := func(i int) bool { return f.home(i) == f.home(at) && f[i].Text == f[at].Text }
	switch f[at].Kind {
	case api.NUnit:
		return f.unitFault()
	case api.NFun:
		switch {
		case f.function(f[at].Text) != at:
			return api.ErrTwice
		case f.ahead(at) >= api.MaxFuns, len(f.kids(at))-1 > api.MaxParams:
			return api.ErrSize
		}
	case api.NParam, api.NLocal, api.NFor:
		switch {
		case f[at].Kind != api.NFor && slices.ContainsFunc(makers, sameHome):
			return api.ErrTwice
		case f[at].Kind != api.NParam && len(makers)+1 > api.MaxLocals:
			return api.ErrSize
		}
	case api.NName:
		if f.named(at) == 0 {
			return api.ErrName
		}
	case api.NSet:
		first := f.kids(at)[0]
		if kind := f[f.named(first)].Kind; f[first].Kind == api.NName && (kind == api.NFun || kind == api.NFor) {
			return api.ErrKind
		}
	case api.NCall:
		if len(f.kids(at)) > 1+api.MaxParams {
			return api.ErrSize
		}
	}
	return api.OK
}

func (f flat) unitFault() api.Errno {
	main := f.function("main")
	switch {
	case main == 0:
		return api.ErrName
	case len(f.kids(main)) > 1:
		return api.ErrRange
	}
	return api.OK
}

// turn says when a node's own faults are told: ahead of the node of which number, and there behind those that end.
func (f flat) turn(at int) (int, int) {
	switch f[at].Kind {
	case api.NFun:
		return at, 1
	case api.NFor:
		return f.home(at), 1
	}
	return f[at].end, 0
}

// slot is E5's number of a node.
func (f flat) slot(at int) int {
	switch f[at].Kind {
	case api.NLocal, api.NFor, api.NParam:
		return len(f.makers(at))
	case api.NName:
		named := f.named(at)
		if f[named].Kind == api.NFun {
			return api.MaxLocals + f.ahead(named)
		}
		return f.slot(named)
	}
	return -1
}

// plain says what Check and Slots are to answer.
func plain(text string) (api.Node, []int, api.Fault) {
	n, fault := syntax.Parse(text)
	if fault.Code != api.OK {
		return n, nil, fault
	}
	var f flat
	f.lay(n, 0)
	var turns, slots []int
	for i := range f {
		turns = append(turns, i)
	}
	slices.SortFunc(turns, func(a, b int) int {
		atA, endA := f.turn(a)
		atB, endB := f.turn(b)
		return cmp.Or(cmp.Compare(atA, atB), cmp.Compare(endA, endB), cmp.Compare(b, a))
	})
	for _, at := range turns {
		if code := f.fault(at); code != api.OK {
			return api.Node{}, nil, api.Fault{Code: code, At: at}
		}
	}
	for i := range f {
		slots = append(slots, f.slot(i))
	}
	return n, slots, fault
}

// agrees holds Check and Slots against what is plain, and tells the fault.
func agrees(t *testing.T, text string) api.Fault {
	t.Helper()
	n, slots, fault := plain(text)
	if got, f := check.Check(text); !same(got, n) || f != fault {
		t.Fatalf("Check(%q): %v, %v; want %v, %v", text, got, f, n, fault)
	}
	if got, f := check.Slots(text); !slices.Equal(got, slots) || f != fault {
		t.Fatalf("Slots(%q): %v, %v; want %v, %v", text, got, f, slots, fault)
	}
	return fault
}

// seen counts what was told.
type seen map[api.Errno]int

// wants asks that each of the codes was told at least so often.
func (s seen) wants(t *testing.T, least int, codes ...api.Errno) {
	t.Helper()
	for _, code := range codes {
		if s[code] < least {
			t.Errorf("the code %v was told %d times of %v", code, s[code], s)
		}
	}
}

// E1 to E5: all rows of a few pieces that are a program.
func TestAllShort(t *testing.T) {
	pieces := []string{"local a=b;", "local b=f;", "a=1;", "b=a;", "emit a;", "if 1 then ", "else ", "while b do ", "for a=b,a do ", "end ", "end function f(a,b) ", "end function a() "}
	told := seen{}
	var extend func(text string, more int)
	extend = func(text string, more int) {
		if program := text + "end"; isProgram(program) {
			told[agrees(t, program).Code]++
		}
		if more == 0 {
			return
		}
		for _, p := range pieces {
			extend(text+p, more-1)
		}
	}
	extend("function main() ", 4)
	extend("function main() local b=1;", 3)
	extend("function f(b) for a=1,2 do ", 4)
	told.wants(t, 100, api.OK, api.ErrKind, api.ErrName, api.ErrTwice)
}

func isProgram(text string) bool {
	_, f := syntax.Parse(text)
	return f.Code == api.OK
}

// dice gives numbers by a fixed rule.
type dice int

func (d *dice) roll(n int) int {
	*d = *d * 75 % 65537
	return int(*d) % n
}

// pick takes one of the words.
func (d *dice) pick(words string) string {
	list := strings.Fields(words)
	return list[d.roll(len(list))]
}

// row is up to so many of something, with commas between.
func (d *dice) row(most int, one func() string) string {
	var list []string
	for range d.roll(most + 1) {
		list = append(list, one())
	}
	return strings.Join(list, ",")
}

// maker writes programs. It knows which names are there, and says another one only once in a while.
type maker struct {
	dice
	rare  int      // of so many choices one may be wrong
	many  int      // stats of a block, at most
	there []string // names: of functions f.. and main, of variables that count i.., of other locals
}

func (m *maker) errs() bool { return m.roll(m.rare) == 0 }

// name is one that is there, of those that begin with none of the letters.
func (m *maker) name(but string) string {
	var fit []string
	for _, name := range m.there {
		if !strings.Contains(but, name[:1]) {
			fit = append(fit, name)
		}
	}
	if m.errs() || len(fit) == 0 {
		return m.pick("a0 a1 b0 f0 f9 i0 i1 main none")
	}
	return fit[m.roll(len(fit))]
}

func (m *maker) expr(deep int) string {
	one := func() string { return m.expr(deep - 1) }
	if deep == 0 {
		return m.name("")
	}
	switch m.roll(7) {
	case 0:
		return "1+" + one()
	case 1:
		most := api.MaxParams
		if m.errs() {
			most++
		}
		return m.name("") + "(" + m.row(most, one) + ")"
	case 2:
		return "next(" + one() + ",-" + one() + ")"
	case 3:
		return m.name("") + "[" + one() + "]"
	}
	return m.pick("1 {} nil")
}

func (m *maker) stat(deep int) string {
	if deep > 0 {
		switch m.roll(6) {
		case 0:
			return "if " + m.expr(1) + " then " + m.block(deep-1) + "else " + m.block(deep-1) + "end "
		case 1:
			return "if " + m.expr(1) + " then " + m.block(deep-1) + "end "
		case 2:
			return "while " + m.expr(1) + " do " + m.block(deep-1) + "end "
		case 3:
			head := "=" + m.expr(1) + "," + m.expr(1) + " do "
			name := m.pick("i0 i1 i2")
			return "for " + name + head + m.block(deep-1, name) + "end "
		}
	}
	switch m.roll(6) {
	case 0:
		return m.name("fmi") + "=" + m.expr(2) + ";"
	case 1:
		return m.name("") + "[1]=" + m.expr(2) + ";"
	case 2:
		return m.name("") + "(" + m.row(3, func() string { return m.expr(1) }) + ");"
	case 3:
		return "emit " + m.expr(2) + ";"
	}
	text := "=" + m.expr(1) + ";"
	name := m.pick("a b c d e g h j k l") + m.pick("0 1 2 3 4 5 6 7 8 9")
	if m.errs() {
		name = m.pick("a0 i0 main")
	}
	m.there = append(m.there, name)
	return "local " + name + text
}

// block writes stats, with names that are there in them alone.
func (m *maker) block(deep int, names ...string) string {
	before := len(m.there)
	m.there = append(m.there, names...)
	s := ""
	for range m.roll(m.many + 1) {
		s += m.stat(deep)
	}
	m.there = m.there[:before]
	return s
}

// params are so many that differ, or nearly so.
func (m *maker) params(most int) []string {
	params := strings.Fields("a0 b0 c0 d0 e0 g0")[:m.roll(most+1)]
	if len(params) > 0 && m.errs() {
		params[m.roll(len(params))] = "a0"
	}
	return params
}

func (m *maker) program() string {
	many := 1 + m.roll(4)*m.roll(4)
	names := []string{"main"}
	for i := range many {
		names = append(names, "f"+strconv.Itoa(i))
	}
	if m.errs() {
		names[0] = "f1"
	}
	at := m.roll(many)
	names[0], names[at] = names[at], names[0]
	m.there = slices.Clone(names)
	s := ""
	for _, name := range names {
		params := m.params(api.MaxParams)
		if name == "main" && !m.errs() {
			params = nil
		}
		s += "function " + name + "(" + strings.Join(params, ",") + ") " + m.block(3, params...) + "end "
	}
	return s
}

// E1 to E5: programs by a fixed rule.
func TestByRule(t *testing.T) {
	told := seen{}
	for i := range 6000 {
		m := maker{dice: dice(i + 1), rare: 5 << (i % 8), many: 1 + i%4}
		told[agrees(t, m.program()).Code]++
	}
	told.wants(t, 50, api.OK, api.ErrSize, api.ErrKind, api.ErrName, api.ErrTwice, api.ErrRange)
}

// E1 to E5: what is said at a place of a program that goes to the limits.
func TestAtLimits(t *testing.T) {
	told := seen{}
	for locals := api.MaxLocals - 7; locals <= api.MaxLocals+1; locals++ {
		ahead := "function f(a,b,c) " + localsNamed("v", locals-3)
		for i := range 300 {
			m := maker{dice: dice(1 + i*locals), rare: 100, many: 3, there: []string{"f", "main", "f0", "a", "b", "v0", "v9"}}
			told[agrees(t, ahead+m.block(3)+"end function main() end function f0() end").Code]++
		}
	}
	for funs := range api.MaxFuns + 3 {
		m := maker{dice: dice(1 + funs), rare: 20, there: []string{"main"}}
		for range 20 {
			told[agrees(t, funsNamed("f", funs)+"function main() emit "+m.expr(2)+"; end "+funsNamed(m.pick("f g"), m.roll(4))).Code]++
		}
	}
	told.wants(t, 50, api.OK, api.ErrSize, api.ErrName, api.ErrTwice)
}

// E1 to E5: any text.
func FuzzCheck(f *testing.F) {
	f.Add("function main()local x=1;x=f;end function f()end")
	f.Add("function main()for i=1,2 do i[1]=i;if i then local i=1;i=2;else i=3;end end end")
	f.Add("function f(a,b,a)end function f(main)emit main(1,2,3,4,5,6);end")
	f.Add("function main(a)while a do local b=a;end return b;end")
	f.Fuzz(func(t *testing.T, text string) { agrees(t, text) })
}
