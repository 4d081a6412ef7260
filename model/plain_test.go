package model_test

import (
	"fmt"
	"slices"
	"testing"

	"packtrail/api"
	"packtrail/check"
	"packtrail/model"
	"packtrail/sample"
	"packtrail/table"
	"packtrail/value"
)

// mill does a program another way: by a list of what is still to do, and by one of the values that wait for it. It calls nothing within itself, throws nothing, and looks names up as they are written.
type mill struct {
	api.Shown
	fuel   int
	over   bool
	funs   []api.Node
	tables []api.Table
	todo   []func() // the next one last
	vals   []api.Value
	locals *local
	calls  []calling // that have not come back
}

// local is one, and those that were made ahead of it.
type local struct {
	name string
	val  api.Value
	rest *local
}

// calling is what there was as a call began: all else goes where it ends.
type calling struct {
	todo, vals int
	locals     *local
}

// plain says what Run is to answer for a program that may be.
func plain(text string, fuel int) api.Shown {
	n, _ := check.Check(text)
	m := &mill{fuel: fuel, funs: n.Kids}
	m.call(m.called("main"), nil)
	for !m.over && len(m.todo) > 0 {
		act := m.todo[len(m.todo)-1]
		m.todo = m.todo[:len(m.todo)-1]
		act()
	}
	if !m.over {
		m.End, m.Last = api.EndDone, value.Text(m.pop())
	}
	return m.Shown
}

// then puts ahead of all else what is to do now, in this order.
func (m *mill) then(acts ...func()) {
	for _, act := range slices.Backward(acts) {
		m.todo = append(m.todo, act)
	}
}

func (m *mill) push(v api.Value) { m.vals = append(m.vals, v) }

func (m *mill) pop() api.Value {
	v := m.vals[len(m.vals)-1]
	m.vals = m.vals[:len(m.vals)-1]
	return v
}

// fail ends the run, if a code is not OK, and tells whether.
func (m *mill) fail(code api.Errno) bool {
	if code != api.OK {
		m.over, m.End, m.Err = true, api.EndFailed, code
	}
	return m.over
}

// step makes of what is to do something that is a step.
func (m *mill) step(act func()) func() {
	return func() {
		if m.Steps >= m.fuel {
			m.over = true
			return
		}
		m.Steps++
		act()
	}
}

func (m *mill) called(name string) api.Value {
	return sample.Fun(int64(slices.IndexFunc(m.funs, func(f api.Node) bool { return f.Text == name })))
}

func (m *mill) find(name string) *local {
	l := m.locals
	for l != nil && l.name != name {
		l = l.rest
	}
	return l
}

func (m *mill) call(f api.Value, args []api.Value) {
	if f.Kind != api.VFun {
		m.fail(api.ErrKind)
		return
	}
	if len(m.calls) >= api.MaxCalls {
		m.fail(api.ErrSize)
		return
	}
	m.calls = append(m.calls, calling{len(m.todo), len(m.vals), m.locals})
	m.locals = nil
	kids := m.funs[f.N].Kids
	for i, p := range kids[:len(kids)-1] {
		m.locals = &local{p.Text, append(args, make([]api.Value, 5)...)[i], m.locals}
	}
	m.then(m.block(kids[len(kids)-1]), func() { m.leave(api.Value{}) })
}

// leave ends the last call.
func (m *mill) leave(answer api.Value) {
	c := m.calls[len(m.calls)-1]
	m.calls = m.calls[:len(m.calls)-1]
	m.todo, m.vals, m.locals = m.todo[:c.todo], m.vals[:c.vals], c.locals
	m.push(answer)
}

// block does statements; their locals are gone behind them.
func (m *mill) block(n api.Node) func() {
	return func() {
		before := m.locals
		m.then(func() { m.locals = before })
		for _, s := range slices.Backward(n.Kids) {
			m.then(m.step(func() { m.stat(s) }))
		}
	}
}

func (m *mill) expr(n api.Node) func() {
	return m.step(func() {
		lazy := n.Kind == api.NOp && n.Num >= api.OpAnd
		m.then(func() { m.finish(n) })
		for i, k := range slices.Backward(n.Kids) {
			if i == 0 || !lazy {
				m.then(m.expr(k))
			}
		}
	})
}

func (m *mill) stat(n api.Node) {
	switch n.Kind {
	case api.NLocal:
		m.then(m.expr(n.Kids[0]), func() { m.locals = &local{n.Text, m.pop(), m.locals} })
	case api.NSet:
		m.set(n.Kids[0], n.Kids[1])
	case api.NDo:
		m.then(m.expr(n.Kids[0]), func() { m.pop() })
	case api.NIf:
		m.then(m.expr(n.Kids[0]), func() {
			if value.Truth(m.pop()) {
				m.then(m.block(n.Kids[1]))
			} else if len(n.Kids) == 3 {
				m.then(m.block(n.Kids[2]))
			}
		})
	case api.NWhile:
		m.then(m.expr(n.Kids[0]), func() {
			if value.Truth(m.pop()) {
				m.then(m.block(n.Kids[1]), func() { m.stat(n) })
			}
		})
	case api.NFor:
		m.then(m.expr(n.Kids[0]), m.expr(n.Kids[1]), func() {
			last, first := m.pop(), m.pop()
			if first.Kind != api.VInt || last.Kind != api.VInt {
				m.fail(api.ErrKind)
			} else if first.N <= last.N {
				m.then(m.round(n, first.N, uint64(last.N)-uint64(first.N)))
			}
		})
	case api.NEmit:
		m.then(m.expr(n.Kids[0]), func() { m.Out = append(m.Out, value.Text(m.pop())) })
	case api.NReturn:
		m.then(m.expr(n.Kids[0]), func() { m.leave(m.pop()) })
	}
}

// round does one of an NFor, and so many more behind it.
func (m *mill) round(n api.Node, i int64, more uint64) func() {
	return m.step(func() {
		before := m.locals
		m.locals = &local{n.Text, sample.Num(i), before}
		m.then(m.block(n.Kids[2]), func() {
			m.locals = before
			if more > 0 {
				m.then(m.round(n, i+1, more-1))
			}
		})
	})
}

func (m *mill) set(to, from api.Node) {
	if to.Kind == api.NName {
		m.then(m.expr(from), func() { m.find(to.Text).val = m.pop() })
		return
	}
	m.then(m.expr(to.Kids[0]), m.expr(to.Kids[1]), m.expr(from), func() {
		v, k, t := m.pop(), m.pop(), m.pop()
		if t.Kind != api.VTable {
			m.fail(api.ErrKind)
			return
		}
		changed, code := table.Set(m.tables[t.N], k, v)
		if !m.fail(code) {
			m.tables[t.N] = changed
		}
	})
}

// finish does an expression whose kids are done.
func (m *mill) finish(n api.Node) {
	switch n.Kind {
	case api.NOp:
		m.operate(n)
	case api.NCall:
		from := len(m.vals) - len(n.Kids)
		vs := slices.Clone(m.vals[from:])
		m.vals = m.vals[:from]
		m.call(vs[0], vs[1:])
	case api.NIndex, api.NNext:
		k, t := m.pop(), m.pop()
		if t.Kind != api.VTable {
			m.fail(api.ErrKind)
		} else if n.Kind == api.NIndex {
			m.push(table.Get(m.tables[t.N], k))
		} else {
			m.answer(table.Next(m.tables[t.N], k))
		}
	default:
		m.answer(m.simple(n))
	}
}

func (m *mill) answer(v api.Value, code api.Errno) {
	if !m.fail(code) {
		m.push(v)
	}
}

func (m *mill) operate(n api.Node) {
	switch n.Num {
	case api.OpAnd, api.OpOr:
		if first := m.pop(); value.Truth(first) == (n.Num == api.OpAnd) {
			m.then(m.expr(n.Kids[1]))
		} else {
			m.push(first)
		}
	default:
		b, a := m.pop(), m.pop()
		m.answer(value.Op(int(n.Num), a, b))
	}
}

// simple is what an expression with one kid, or with none, is.
func (m *mill) simple(n api.Node) (api.Value, api.Errno) {
	switch n.Kind {
	case api.NInt:
		return sample.Num(n.Num), api.OK
	case api.NText:
		return sample.Text(n.Text), api.OK
	case api.NTrue:
		return sample.Bool(true), api.OK
	case api.NFalse:
		return sample.Bool(false), api.OK
	case api.NName:
		if l := m.find(n.Text); l != nil {
			return l.val, api.OK
		}
		return m.called(n.Text), api.OK
	case api.NNew:
		if len(m.tables) >= api.MaxTables {
			return api.Value{}, api.ErrSize
		}
		m.tables = append(m.tables, api.Table{})
		return sample.Tab(int64(len(m.tables) - 1)), api.OK
	case api.NNot:
		return value.Op(api.OpNot, m.pop(), api.Value{})
	case api.NNeg:
		return value.Op(api.OpNeg, m.pop(), api.Value{})
	case api.NLen:
		v := m.pop()
		switch v.Kind {
		case api.VText:
			return sample.Num(int64(len(v.S))), api.OK
		case api.VTable:
			return sample.Num(int64(table.Len(m.tables[v.N]))), api.OK
		}
		return api.Value{}, api.ErrKind
	}
	return api.Value{}, api.OK
}

// agrees holds a run against what is plain, or Check's fault, and gives what it shows.
func agrees(t *testing.T, text string, fuel int) api.Shown {
	t.Helper()
	got, f := model.Run(text, fuel)
	if _, fault := check.Check(text); fault.Code != api.OK {
		if f != fault || !same(got, api.Shown{}) {
			t.Fatalf("Run(%q, %d): %+v, %v; want %v", text, fuel, got, f, fault)
		}
		return got
	}
	if want := plain(text, fuel); !same(got, want) || f != (api.Fault{}) {
		t.Fatalf("Run(%q, %d): %+v, %v; want %+v", text, fuel, got, f, want)
	}
	return got
}

// agreesAtAll holds the runs with each fuel up to one against the one with the most: with less, a run is the beginning of one with more.
func agreesAtAll(t *testing.T, text string, most int) {
	t.Helper()
	whole := agrees(t, text, most)
	for fuel := range most {
		got := agrees(t, text, fuel)
		begin := api.Shown{Out: whole.Out[:min(len(got.Out), len(whole.Out))], Steps: fuel}
		switch {
		case fuel >= whole.Steps && whole.End != api.EndFuel:
			if !same(got, whole) {
				t.Fatalf("Run(%q, %d): %+v; with %d %+v", text, fuel, got, most, whole)
			}
		case !same(got, begin):
			t.Fatalf("Run(%q, %d): %+v; with %d %+v", text, fuel, got, most, whole)
		}
	}
}

// F1 to F3: all rows of a few pieces that are a program.
func TestAllShort(t *testing.T) {
	pieces := []string{"local a=b;", "b=a+1;", "a=f(b);", "t[a]=b;", "emit t[b];", "emit #t;", "if a then ", "else ", "while b<3 do ", "for a=b,3 do ", "end ", "return b;", "end function f(a) local b=a; local t={}; "}
	ends := seen{}
	var extend func(text string, more int)
	extend = func(text string, more int) {
		if s := agrees(t, text+"end", 400); s.Steps > 0 {
			ends.add(s)
		}
		if more == 0 {
			return
		}
		for _, p := range pieces {
			extend(text+p, more-1)
		}
	}
	extend("function f(a) return a; end function main() local a=nil; local b=1; local t={}; ", 4)
	extend("function main() local a=2; local b=1; local t={}; t[1]=5; ", 4)
	ends.wants(t, 2, "done", "fuel", "failed 1", "failed 3")
}

// seen counts how runs end.
type seen map[string]int

func (s seen) add(shown api.Shown) {
	switch shown.End {
	case api.EndDone:
		s["done"]++
	case api.EndFuel:
		s["fuel"]++
	case api.EndFailed:
		s[fmt.Sprint("failed ", int(shown.Err))]++
	}
}

// wants asks that there were so many runs of each end.
func (s seen) wants(t *testing.T, least int, ends ...string) {
	t.Helper()
	for _, end := range ends {
		if s[end] < least {
			t.Errorf("%s: %d times of %v", end, s[end], s)
		}
	}
}

// F1 to F3: programs by a fixed rule.
func TestByRule(t *testing.T) {
	ends := seen{}
	for i := range 6000 {
		ends.add(agrees(t, sample.Program(i), api.MaxSteps))
	}
	ends.wants(t, 5, "done", "fuel", "failed 1", "failed 3", "failed 4", "failed 7")
}

// F1: the same with each fuel up to some.
func TestEachFuel(t *testing.T) {
	for i := range 150 {
		agreesAtAll(t, sample.Program(i), 60)
	}
	agreesAtAll(t, tell("local t={}; for i=1,3 do t[i]=e(i*i); end local k=next(t,nil); while k do emit -t[k]; k=next(t,k); end if #t==3 then return t[3] or 1; end"), 120)
}

// F1 to F3: any text, any fuel.
func FuzzRun(f *testing.F) {
	f.Add("function main()emit 6*7;return \"x\";end", 100)
	f.Add("function main()local t={};for i=1,3 do t[i]=i*i;end return t[3]+#t;end", 20)
	f.Add("function f(a,b)if a<b then return f(b,a);else return a..b and not a;end end function main()emit -f(1,2);end", 50)
	f.Add("function main()local k=next({},nil);while true do k={};main();end end", 1000)
	f.Fuzz(func(t *testing.T, text string, fuel int) {
		if fuel < 0 || fuel > api.MaxSteps {
			refuses(t, text, fuel, api.ErrRange, 0)
			return
		}
		agrees(t, text, fuel)
	})
}
