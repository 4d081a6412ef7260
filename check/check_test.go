package check_test

import (
	"slices"
	"strconv"
	"strings"
	"testing"
	"unsafe"

	"packtrail/api"
	"packtrail/check"
	"packtrail/syntax"
)

// same tells whether two nodes are.
func same(a, b api.Node) bool {
	return a.Kind == b.Kind && a.Text == b.Text && a.Num == b.Num && slices.EqualFunc(a.Kids, b.Kids, same)
}

// passes asks for a program that may be: its node is the one that Parse answers, its slots are those that are wanted.
func passes(t *testing.T, text, want string) {
	t.Helper()
	n, f := check.Check(text)
	if parsed, _ := syntax.Parse(text); !same(n, parsed) || f != (api.Fault{}) {
		t.Errorf("Check(%q): %v, %v", text, n, f)
	}
	slots, f := check.Slots(text)
	got := make([]string, len(slots))
	for i, s := range slots {
		got[i] = strconv.Itoa(s)
		if s == -1 {
			got[i] = "."
		}
	}
	if strings.Join(got, " ") != want || f != (api.Fault{}) {
		t.Errorf("Slots(%q): %v, %v; want %s", text, got, f, want)
	}
	p, f := check.Lay(text)
	if whole, in := apart(p); !same(whole, n) || !slices.Equal(in, slots) || f != (api.Fault{}) || n.Kids[p.Main()].Text != "main" {
		t.Errorf("Lay(%q): %+v, %v", text, p, f)
	}
}

// apart gives a part's node, and the slots of it and those below it, as nodes stand from the left.
func apart(p check.Part) (api.Node, []int) {
	n, slots := api.Node{Kind: p.Kind, Text: p.Text, Num: p.Num}, []int{p.Slot}
	for _, kid := range p.Kids {
		k, in := apart(kid)
		n.Kids, slots = append(n.Kids, k), append(slots, in...)
	}
	return n, slots
}

// refuses asks for a program that may not be: Check, Slots and Lay tell the same fault, and nothing else (P2).
func refuses(t *testing.T, text string, code api.Errno, at int) {
	t.Helper()
	want := api.Fault{Code: code, At: at}
	if n, f := check.Check(text); !same(n, api.Node{}) || f != want {
		t.Errorf("Check(%q): %v, %v; want %v", text, n, f, want)
	}
	if slots, f := check.Slots(text); len(slots) != 0 || f != want {
		t.Errorf("Slots(%q): %v, %v; want %v", text, slots, f, want)
	}
	if p, f := check.Lay(text); p.Kind != 0 || p.Slot != 0 || len(p.Kids) != 0 || f != want {
		t.Errorf("Lay(%q): %+v, %v; want %v", text, p, f, want)
	}
}

// runs is the program that has such stats in its main, and a function f behind it; the first stat is the node 3.
func runs(stats string) string { return "function main() " + stats + " end function f(a) end" }

// passesStats asks for stats that may be; the slots that are wanted are those of their nodes alone.
func passesStats(t *testing.T, stats, want string) {
	t.Helper()
	passes(t, runs(stats), strings.Join(strings.Fields(". . . "+want+" . 0 ."), " "))
}

// refusesStats asks for stats that may not be.
func refusesStats(t *testing.T, stats string, code api.Errno, at int) {
	t.Helper()
	refuses(t, runs(stats), code, at)
}

// E1: what is no program has the fault that Parse tells.
func TestNoProgram(t *testing.T) {
	refuses(t, "function main() x = 1 end", api.ErrForm, 22)
	refuses(t, "function main() ", api.ErrForm, 16)
	refuses(t, "main", api.ErrForm, 0)
	refuses(t, "function main() x = 08; end", api.ErrForm, 20)
	refuses(t, "function main() x = $; end", api.ErrForm, 20)
	refuses(t, strings.Repeat(" ", api.MaxText+1), api.ErrSize, 0)
	refuses(t, "function main() return "+strings.Repeat("- ", 20)+"x; end", api.ErrSize, 0)
	refuses(t, "function main() "+strings.Repeat("emit x;", 300)+" end", api.ErrSize, 0)
	refuses(t, "function main() emit 9223372036854775808; end", api.ErrRange, 21)
	refuses(t, "function main() emit abcdefghijklmnopq; end", api.ErrSize, 21)
	// The fault of the program's form is told, though what stands ahead of it may not be.
	refuses(t, "function f() end function f() x = y; f = 1", api.ErrForm, 42)
}

// E1: the first fault from the left is told.
func TestFirstFromTheLeft(t *testing.T) {
	refuses(t, "function main() emit x; emit y; end", api.ErrName, 4)
	refuses(t, "function main() emit 1; emit y; emit x; end", api.ErrName, 6)
	refuses(t, "function main() emit x + y; end", api.ErrName, 5)
	refuses(t, "function main() emit 1 + y; end", api.ErrName, 6)
	refuses(t, "function main() end function main() end function f(a, a) end", api.ErrTwice, 3)
	refuses(t, "function f(a, a) end function f() end", api.ErrTwice, 3)
	refuses(t, "function g() emit x; end function g() end", api.ErrName, 4)
	refuses(t, "function g() end function g() emit x; end", api.ErrTwice, 3)
	refuses(t, "function g(a, b, c) end function h(x, y) while a do end end", api.ErrName, 11)
	refusesStats(t, "if x then emit y; else emit z; end", api.ErrName, 4)
	refusesStats(t, "if 1 then emit y; else emit z; end", api.ErrName, 7)
	refusesStats(t, "if 1 then emit 2; else emit z; end", api.ErrName, 10)
	refusesStats(t, "while x do emit y; end", api.ErrName, 4)
	refusesStats(t, "while 1 do emit y; end", api.ErrName, 7)
}

// E1: a node's own faults are behind those of its kids.
func TestKidsFirst(t *testing.T) {
	refusesStats(t, "local x = 1; local x = y;", api.ErrName, 6)
	refusesStats(t, "local x = 1; local x = 2;", api.ErrTwice, 5)
	refusesStats(t, "f = y;", api.ErrName, 5)
	refusesStats(t, "f = f(1, 2, 3, 4, 5, 6);", api.ErrSize, 5)
	refusesStats(t, "f = f(1, 2, 3, 4, 5);", api.ErrKind, 3)
	refusesStats(t, "f(1, 2, 3, 4, 5, y);", api.ErrName, 11)
	refusesStats(t, "y(1, 2, 3, 4, 5, 6);", api.ErrName, 5)
	refusesStats(t, "f(1, 2, 3, 4, 5, f(1, 2, 3, 4, 5, 6));", api.ErrSize, 11)
	refusesStats(t, "y = 1;", api.ErrName, 4)
	refusesStats(t, "f(1, 2, 3, 4, 5, 6); f = 1;", api.ErrSize, 4)
	refuses(t, "function f(a) emit x; end", api.ErrName, 5)
	refuses(t, "function main(a) emit x; end", api.ErrName, 5)
	refuses(t, "function main(a) end function f(a, a) end", api.ErrTwice, 6)
	refuses(t, "function f(a, a) end", api.ErrTwice, 3)
}

// E1: an NFun's faults are ahead of those of its kids; an NFor's behind its expressions, ahead of its block.
func TestNodeFirst(t *testing.T) {
	refuses(t, "function f() end function f(a, a) emit x; end", api.ErrTwice, 3)
	refuses(t, "function f(a, b, c, d, e, a) emit x; end", api.ErrSize, 1)
	refuses(t, "function f(a, b, c, d, a) emit x; end", api.ErrTwice, 6)
	full := localsNamed("v", api.MaxLocals)
	at := 3 + 2*api.MaxLocals
	refusesStats(t, full+"for i = x, y do emit z; end", api.ErrName, at+1)
	refusesStats(t, full+"for i = 1, y do emit z; end", api.ErrName, at+2)
	refusesStats(t, full+"for i = 1, 2 do emit z; end", api.ErrSize, at)
	refusesStats(t, full+"for i = i, 2 do end", api.ErrName, at+1)
}

// localsNamed is a row of so many NLocals, two nodes each.
func localsNamed(name string, many int) string {
	s := ""
	for i := range many {
		s += "local " + name + strconv.Itoa(i) + "=1; "
	}
	return s
}

// funsNamed is a row of so many functions, two nodes each.
func funsNamed(name string, many int) string {
	s := ""
	for i := range many {
		s += "function " + name + strconv.Itoa(i) + "() end "
	}
	return s
}

// E2: names of functions, and how many of them there may be.
func TestFunctions(t *testing.T) {
	passes(t, "function main() end", ". . .")
	passes(t, "function f() end function main() end function g() end", ". . . . . . .")
	refuses(t, "function main() end function main() end", api.ErrTwice, 3)
	refuses(t, "function f() end function main() end function f() end", api.ErrTwice, 5)
	refuses(t, "function f() end function f() end function f() end", api.ErrTwice, 3)
	most := funsNamed("f", api.MaxFuns-1)
	passes(t, most+"function main() end", strings.Repeat(". ", 2*api.MaxFuns)+".")
	refuses(t, most+"function main() end function g() end", api.ErrSize, 1+2*api.MaxFuns)
	refuses(t, most+"function main() end function f0() end", api.ErrTwice, 1+2*api.MaxFuns)
	refuses(t, most+"function main() end function g(a, a) end", api.ErrSize, 1+2*api.MaxFuns)
	refuses(t, most+"function g() end function main() end", api.ErrSize, 1+2*api.MaxFuns)
	refuses(t, funsNamed("f", api.MaxFuns+5), api.ErrSize, 1+2*api.MaxFuns)
	refuses(t, most+"function f0() end function main() end", api.ErrTwice, 1+2*(api.MaxFuns-1))
	// A function that is one too many has a name that may be said ahead of it.
	refuses(t, "function main() emit g; emit h; end "+most+"function g() end", api.ErrName, 6)
	refuses(t, "function main() emit g; end "+most+"function g() end", api.ErrSize, 5+2*(api.MaxFuns-1))
}

// E2: names of parameters, and how many of them there may be.
func TestParams(t *testing.T) {
	passes(t, "function f(a, b, c, d, e) end function main() end", ". . 0 1 2 3 4 . . .")
	passes(t, "function f(f, main) end function main() end", ". . 0 1 . . .")
	passes(t, "function f(a) end function g(a) end function main() end", ". . 0 . . 0 . . .")
	refuses(t, "function f(a, b, c, d, e, g) end function main() end", api.ErrSize, 1)
	refuses(t, "function f(a, a, a, a, a, a) end function main() end", api.ErrSize, 1)
	refuses(t, "function main() end function f(a, b, c, d, e, g, h) end", api.ErrSize, 3)
	refuses(t, "function main() end function main(a, b, c, d, e, g) end", api.ErrTwice, 3)
	refuses(t, "function f(a, a) end function main() end", api.ErrTwice, 3)
	refuses(t, "function f(a, b, c, d, a) end function main() end", api.ErrTwice, 6)
	refuses(t, "function f(a, b, b, a) end function main() end", api.ErrTwice, 4)
	refuses(t, "function f(a, b) end function g(b, a, b) end", api.ErrTwice, 8)
}

// E2: there is a main, and it has no parameters.
func TestMain(t *testing.T) {
	refuses(t, "", api.ErrName, 0)
	refuses(t, "function f() end", api.ErrName, 0)
	refuses(t, "function Main() end", api.ErrName, 0)
	refuses(t, "function f(main) local x = main; end", api.ErrName, 0)
	refuses(t, "function f() local main = 1; end", api.ErrName, 0)
	refuses(t, "function main(a) end", api.ErrRange, 0)
	refuses(t, "function f() end function main(a, b, c, d, e) end function g() end", api.ErrRange, 0)
	refuses(t, "function main(a, b, c, d, e, g) end", api.ErrSize, 1)
	refuses(t, "function main(main) end", api.ErrRange, 0)
	passes(t, "function f(a) end function main() end", ". . 0 . . .")
}

// E3: where locals are there.
func TestLocals(t *testing.T) {
	passesStats(t, "local x = 1; emit x;", "0 . . 0")
	passesStats(t, "local x = 1; local y = x; emit y + x;", "0 . 1 0 . . 1 0")
	refusesStats(t, "local x = x;", api.ErrName, 4)
	refusesStats(t, "emit x; local x = 1;", api.ErrName, 4)
	refusesStats(t, "if 1 then local x = 1; end emit x;", api.ErrName, 9)
	refusesStats(t, "if 1 then local x = 1; else emit x; end", api.ErrName, 10)
	refusesStats(t, "while 1 do local x = 1; end emit x;", api.ErrName, 9)
	refusesStats(t, "for i = 1, 2 do end emit i;", api.ErrName, 8)
	refusesStats(t, "for i = i, 2 do end", api.ErrName, 4)
	refusesStats(t, "for i = 1, i do end", api.ErrName, 5)
	refusesStats(t, "while x do local x = 1; end", api.ErrName, 4)
	refusesStats(t, "emit a;", api.ErrName, 4)
	refuses(t, "function f(a) local b = a; end function main() emit b; end", api.ErrName, 9)
	passesStats(t, "local x = f; local f = f; emit f;", "0 31 1 31 . 1")
	passesStats(t, "if 1 then local x = 1; else local x = 2; end local x = 3; emit x;", ". . . 0 . . 0 . 0 . . 0")
	passesStats(t, "for i = 1, 2 do local j = i; end for j = 3, 4 do emit j; end", "0 . . . 1 0 0 . . . . 0")
	passesStats(t, "while 1 do local x = 1; local y = x; end while 2 do local y = 1; end", ". . . 0 . 1 0 . . . 0 .")
}

// E3: no block has two locals of a name; a block within it may.
func TestTwice(t *testing.T) {
	refusesStats(t, "local x = 1; local y = 2; local x = 3;", api.ErrTwice, 7)
	refusesStats(t, "local x = 1; if 1 then end local x = 3;", api.ErrTwice, 8)
	refusesStats(t, "for i = 1, 2 do local i = 1; end", api.ErrTwice, 7)
	refusesStats(t, "for i = 1, 2 do while i do end local i = 1; end", api.ErrTwice, 10)
	refusesStats(t, "if 1 then local x = 1; local x = 1; end", api.ErrTwice, 8)
	refusesStats(t, "if 1 then else local x = 1; local x = 1; end", api.ErrTwice, 9)
	refuses(t, "function f(a) local a = 1; end function main() end", api.ErrTwice, 4)
	refuses(t, "function f(a) if a then end local a = 1; end function main() end", api.ErrTwice, 7)
	passes(t, "function f(a) if a then local a = a; emit a; end emit a; end function main() end", ". . 0 . . 0 . 1 0 . 1 . 0 . .")
	passesStats(t, "local x = 1; while x do local x = x; x = 2; end x = 3;", "0 . . 0 . 1 0 . 1 . . 0 .")
	passesStats(t, "local i = 1; for i = i, i do if i then local i = i; end end emit i;", "0 . 1 0 0 . . 1 . 2 1 . 0")
	passesStats(t, "for i = 1, 2 do for i = i, 3 do emit i; end emit i; end", "0 . . . 1 0 . . . 1 . 0")
	passesStats(t, "local main = 1; local f = main;", "0 . 1 0")
}

// E3: how many locals may be there at once.
func TestManyLocals(t *testing.T) {
	most := localsNamed("v", api.MaxLocals)
	last := 3 + 2*api.MaxLocals
	slots := ""
	for i := range api.MaxLocals {
		slots += strconv.Itoa(i) + " . "
	}
	passesStats(t, most, slots)
	refusesStats(t, most+"local x = 1;", api.ErrSize, last)
	refusesStats(t, most+"local v0 = 1;", api.ErrTwice, last)
	refusesStats(t, most+"if 1 then local v0 = 1; end", api.ErrSize, last+3)
	refusesStats(t, most+"for i = 1, 2 do end", api.ErrSize, last)
	refusesStats(t, most+"for v0 = 1, 2 do end", api.ErrSize, last)
	passesStats(t, most+"emit v29; emit v0;", slots+". 29 . 0")
	less := localsNamed("v", api.MaxLocals-1)
	ahead := strings.TrimSuffix(slots, "29 . ")
	passesStats(t, less+"for i = 1, 2 do emit i; end for j = 3, 4 do end local x = 5;", ahead+"29 . . . . 29 29 . . . 29 .")
	refusesStats(t, less+"for i = 1, 2 do local x = 1; end", api.ErrSize, last-2+4)
	refusesStats(t, less+"for i = 1, 2 do local i = 1; end", api.ErrTwice, last-2+4)
	refusesStats(t, less+"for i = 1, 2 do for i = 1, 2 do end end", api.ErrSize, last-2+4)
	passesStats(t, less+"if 1 then local x = 1; else local x = 2; end while 1 do local y = 1; end", ahead+". . . 29 . . 29 . . . . 29 .")
	refusesStats(t, less+"if 1 then local x = 1; while 1 do local y = 1; end end", api.ErrSize, last-2+3+2+3)
}

// E3: parameters are locals too; those of another function do not count.
func TestManyWithParams(t *testing.T) {
	less := localsNamed("v", api.MaxLocals-5)
	refuses(t, "function f(a, b, c, d, e) "+less+"local x = 1; end function main() end", api.ErrSize, 8+2*(api.MaxLocals-5))
	refuses(t, "function f(a, b, c, d, e) "+less+"for i = 1, 2 do end end function main() end", api.ErrSize, 8+2*(api.MaxLocals-5))
	refuses(t, "function f(a, b, c, d, e) "+less+"end function main() "+localsNamed("v", api.MaxLocals+1)+"end", api.ErrSize, 8+2*(api.MaxLocals-5)+2+2*api.MaxLocals)
	want := ". . 0 1 2 3 4 . "
	for i := range api.MaxLocals - 5 {
		want += strconv.Itoa(i+5) + " . "
	}
	passes(t, "function f(a, b, c, d, e) "+less+"end function main() local x = 1; end", want+". . 0 .")
}

// E4: what names are.
func TestNames(t *testing.T) {
	passesStats(t, "emit f; emit main;", ". 31 . 30")
	passes(t, "function main() emit g; end function f() emit main; emit f; end function g() end", ". . . . 32 . . . 30 . 31 . .")
	passesStats(t, `f(1)[2](3); emit next({}, f)[#f] .. "x";`, ". . . . 31 . . . . . . . . 31 . 31 .")
	refusesStats(t, "emit g;", api.ErrName, 4)
	refusesStats(t, "g();", api.ErrName, 5)
	refusesStats(t, "g[1] = 2;", api.ErrName, 5)
	refusesStats(t, "emit F;", api.ErrName, 4)
	refusesStats(t, `emit "x" .. x;`, api.ErrName, 6)
	refusesStats(t, "emit -not #x;", api.ErrName, 7)
	refusesStats(t, "return next({}, x);", api.ErrName, 6)
	refusesStats(t, "f({}, x);", api.ErrName, 7)
}

// E4: what may be set.
func TestSet(t *testing.T) {
	refusesStats(t, "f = 1;", api.ErrKind, 3)
	refusesStats(t, "main = 1;", api.ErrKind, 3)
	refusesStats(t, "f = f;", api.ErrKind, 3)
	refusesStats(t, "for i = 1, 2 do i = 3; end", api.ErrKind, 7)
	refusesStats(t, "for i = 1, 2 do if 1 then i = 3; end end", api.ErrKind, 10)
	refusesStats(t, "local i = 1; for i = 1, 2 do i = 3; end", api.ErrKind, 9)
	refusesStats(t, "for i = 1, 2 do for j = 1, 2 do i = 3; end end", api.ErrKind, 11)
	refusesStats(t, "if 1 then local f = 1; end f = 2;", api.ErrKind, 8)
	passesStats(t, "local f = 1; f = 2;", "0 . . 0 .")
	passesStats(t, "f[1] = 2;", ". . 31 . .")
	passesStats(t, "for i = 1, 2 do i[1] = 3; end", "0 . . . . . 0 . .")
	passesStats(t, "for i = 1, 2 do if 1 then local i = 1; i = 3; end end", "0 . . . . . . 1 . . 1 .")
	passesStats(t, "local i = 0; for i = 1, 2 do end i = 3;", "0 . 1 . . . . 0 .")
	passesStats(t, "for i = 1, 2 do end if 1 then local i = 1; i = 2; end", "0 . . . . . . 0 . . 0 .")
	passes(t, "function f(f) f = 1; end function main() end", ". . 0 . . 0 . . .")
}

// E4: how many arguments a call may have.
func TestArguments(t *testing.T) {
	passesStats(t, "f();", ". . 31")
	passesStats(t, "f(1, 2, 3, 4, 5);", ". . 31 . . . . .")
	refusesStats(t, "f(1, 2, 3, 4, 5, 6);", api.ErrSize, 4)
	refusesStats(t, "f(1, 2, 3, 4, 5, 6, 7);", api.ErrSize, 4)
	refusesStats(t, "emit 1 + f(1, 2, 3, 4, 5, 6);", api.ErrSize, 6)
	refusesStats(t, "f(1)(1, 2, 3, 4, 5, 6)(2);", api.ErrSize, 5)
	refusesStats(t, "local x = 1; x(1, 2, 3, 4, 5, 6);", api.ErrSize, 6)
	passesStats(t, "f(f(1, 2, 3, 4, 5), 2, 3, 4, 5);", ". . 31 . 31 . . . . . . . . .")
}

// E5: the example, and a program of all kinds of nodes.
func TestSlots(t *testing.T) {
	passes(t, "function main()local x=1;x=f;end function f()end", ". . . 0 . . 0 31 . .")
	passes(t, `function g(a, b) local c = {}; c[a] = b; for i = a + 1, #c do local d = i; g(d, not d); end `+
		`while c == nil do if a then return -b; else emit "c"; end end return next(c, a) and true or false; end `+
		`function main() emit g; emit main; end`,
		". . 0 1 . 2 . . . 2 0 1 3 . 0 . . 2 . 4 3 . . 30 4 . 4 . . 2 . . . 0 . . . 1 . . . . . . . 2 0 . . . . . 30 . 31")
}

// P3: what is answered is new memory, and hangs on the text alone.
func TestNewMemory(t *testing.T) {
	text := strings.Clone(`function name(param) local var = "text"; name(var, 1); end function main() local x = name; end`)
	keep := strings.Clone(text)
	a, _ := check.Slots(text)
	b, _ := check.Slots(text)
	want := slices.Clone(a)
	for i := range a[:cap(a)] {
		a[:cap(a)][i] = -9
	}
	if c, _ := check.Slots(text); !slices.Equal(b, want) || !slices.Equal(c, want) || text != keep {
		t.Errorf("%v and %v, want %v", b, c, want)
	}
	m, _ := check.Check(text)
	n, _ := check.Check(text)
	spoil(t, &m, text)
	if o, _ := check.Check(text); !same(n, o) || same(n, m) {
		t.Errorf("%v and %v are not the same", n, o)
	}
}

// spoil writes over a node and all below it; none of it may be a piece of the text.
func spoil(t *testing.T, n *api.Node, text string) {
	t.Helper()
	from, at := uintptr(unsafe.Pointer(unsafe.StringData(text))), uintptr(unsafe.Pointer(unsafe.StringData(n.Text)))
	if n.Text != "" && at >= from && at < from+uintptr(len(text)) {
		t.Errorf("%v keeps a piece of what was handed in", n)
	}
	for i := range n.Kids {
		spoil(t, &n.Kids[i], text)
	}
	*n = api.Node{Kind: -1}
}
