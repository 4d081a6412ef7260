package compile_test

import (
	"slices"
	"strconv"
	"strings"
	"testing"
	"unsafe"

	"packtrail/api"
	"packtrail/check"
	"packtrail/code"
	"packtrail/compile"
	"packtrail/sample"
)

// same tells whether two programs in orders are; an empty list may be nil or not (P3).
func same(a, b api.Code) bool { return a.Main == b.Main && slices.EqualFunc(a.Funs, b.Funs, sameFn) }

func sameFn(a, b api.Fn) bool {
	return a.Params == b.Params && a.Regs == b.Regs && slices.Equal(a.Consts, b.Consts) && slices.Equal(a.Code, b.Code)
}

// refuses asks for a program that may not be: Check's fault is told, and nothing else (P2).
func refuses(t *testing.T, text string) {
	t.Helper()
	_, want := check.Check(text)
	if want.Code == api.OK {
		t.Fatalf("%q may be", text)
	}
	if p, f := compile.Make(text); !same(p, api.Code{}) || f != want {
		t.Fatalf("Make(%q): %+v, %v; want %v", text, p, f, want)
	}
}

// made asks for a program that may be: in orders it may be, too, and has the text's functions.
func made(t *testing.T, text string) api.Code {
	t.Helper()
	n, fault := check.Check(text)
	if fault.Code != api.OK {
		t.Fatalf("%q may not be: %v", text, fault)
	}
	p, f := compile.Make(text)
	if f != (api.Fault{}) || !code.May(p) || len(p.Funs) != len(n.Kids) {
		t.Fatalf("Make(%q): %+v, %v", text, p, f)
	}
	for i, fun := range n.Kids {
		if p.Funs[i].Params != len(fun.Kids)-1 || (p.Main == i) != (fun.Text == "main") {
			t.Fatalf("Make(%q): function %d of %+v", text, i, p)
		}
	}
	return p
}

// inMain is the program that has such stats in its main, and a function f behind it.
func inMain(stats string) string { return "function main() " + stats + " end function f(a,b) end" }

// numbered is a row of a piece, with the numbers from 0 on in place of each #.
func numbered(many int, piece string) string {
	s := ""
	for i := range many {
		s += strings.ReplaceAll(piece, "#", strconv.Itoa(i))
	}
	return s
}

// nested is a text with others around it, so many times.
func nested(many int, ahead, within, behind string) string {
	return strings.Repeat(ahead, many) + within + strings.Repeat(behind, many)
}

// I1: what may not be has Check's fault.
func TestCheckFault(t *testing.T) {
	for _, text := range []string{
		"", "main", "function", "function main() x = 1 end", "function main() end x", "function main() ",
		"function main() emit 08; end", "function main() emit $; end", "function main() emit \"a; end",
		"function main() emit 9223372036854775808; end", "function main() emit abcdefghijklmnopq; end",
		"function f() end", "function main(a) end", "function f(a,a) end", "function main() end function main() end",
		"function main() emit 1; emit x; end", "function main() local x=1; local x=2; end", "function main() main = 1; end",
		"function main() for i=1,2 do i=3; end end", "function main() emit main(1,2,3,4,5,6); end",
		strings.Repeat(" ", api.MaxText+1),
		inMain("emit " + nested(api.MaxDepth, "-", "1", "") + ";"),
		inMain(strings.Repeat("emit 1;", api.MaxNodes/2)),
		inMain(numbered(api.MaxLocals+1, "local v#=1;")),
		inMain(numbered(api.MaxLocals, "local v#=1;") + "for i=1,2 do end"),
		numbered(api.MaxFuns, "function f#() end ") + "function main() end",
		"function main() end function f(" + numbered(api.MaxParams, "a#,") + "b) end",
	} {
		refuses(t, text)
	}
}

// I1: the functions are there in order, each with its parameters; main may be any of them.
func TestFunctions(t *testing.T) {
	p := made(t, "function main()return 7;end")
	if len(p.Funs) != 1 || p.Funs[0].Params != 0 || p.Main != 0 {
		t.Errorf("%+v", p)
	}
	funs := []string{"function a() end", "function b(x) end", "function c(x,y) end", "function d(x,y,z) return z; end", "function e(x,y,z,u,v) end"}
	for at := range len(funs) + 1 {
		p := made(t, strings.Join(slices.Insert(slices.Clone(funs), at, "function main() end"), " "))
		var params []int
		for _, f := range p.Funs {
			params = append(params, f.Params)
		}
		if want := slices.Insert([]int{0, 1, 2, 3, 5}, at, 0); p.Main != at || !slices.Equal(params, want) {
			t.Errorf("main at %d: %+v", at, p)
		}
	}
	made(t, numbered(api.MaxFuns-1, "function f#(a,b,c,d,e) end ")+"function main() end")
	made(t, "function mainly(a) end function Main(a,b) end function main() end")
}

// I1, I2: however much of something a text has, its orders may be, and mean the same.
func TestMost(t *testing.T) {
	locals := numbered(api.MaxLocals-1, "local v#=#;")
	for _, stats := range []string{
		"",
		strings.Repeat("emit 1;", 296),
		numbered(296, "emit #;"),
		numbered(73, "f(1#0,1#1,1#2,1#3,1#4);"),
		numbered(73, "f({},#,nil,\"#\",f);"),
		strings.Repeat("for i=1,1 do end ", 148),
		strings.Repeat("while nil do end ", 197),
		strings.Repeat("if 1 then else end ", 148),
		"local a=1;" + strings.Repeat("a=a or a;", 118),
		"local a=1;" + strings.Repeat("a=a and f;", 118),
		locals + "emit " + nested(9, "f(1,2,3,4,", "v28", ")") + ";",
		locals + "for i=1,1 do emit " + nested(7, "f(1,2,3,4,", "v28", ")") + "; end",
		numbered(api.MaxLocals-4, "local v#=#;") + nested(4, "for i=1,2 do ", "emit f(1,2,3,4,i);", "emit i; end "),
		nested(5, "for i=1,2 do ", "", "end "),
		nested(4, "while f()==nil do ", "return f;", "end "),
		nested(4, "if 1 then ", "emit 1;", "else emit 2; end "),
		"emit " + nested(9, "1+(", "1", ")") + ";",
		"emit " + nested(9, "(", "1", "+1)") + ";",
		"emit " + nested(9, "nil or (", "1", ")") + ";",
		"emit " + nested(9, "(", "1", " and 1)") + ";",
		"emit " + nested(9, "f(", "1", ")") + ";",
		"emit " + nested(9, "- ", "1", "") + ";",
		"emit f" + strings.Repeat("()", 9) + ";",
		`emit "` + sample.Longest() + `";`,
	} {
		means(t, inMain(stats), api.MaxSteps)
	}
	means(t, inMain("")+" "+strings.Repeat("-", api.MaxText-1-len(inMain(""))), api.MaxSteps)
}

// P3: what is answered is new memory: no two lists of it share any, nor do two answers, nor a text and what it was made of.
func TestNewMemory(t *testing.T) {
	text := strings.Clone(`function main() emit "abc"; emit f("abc"); return "def"; end function f(a) emit "abc"; return a; end`)
	first, second := made(t, text), made(t, text)
	texts := []string{text}
	for _, f := range append(slices.Clone(first.Funs), second.Funs...) {
		for _, v := range f.Consts {
			texts = append(texts, v.S)
		}
	}
	for i, a := range texts {
		for _, b := range texts[:i] {
			if share(a, b) {
				t.Errorf("%q and %q share memory", a, b)
			}
		}
	}
	clear(first.Funs[0].Consts[:cap(first.Funs[0].Consts)])
	clear(first.Funs[0].Code[:cap(first.Funs[0].Code)])
	if !sameFn(first.Funs[1], second.Funs[1]) {
		t.Errorf("two functions share memory: %+v", first)
	}
	clear(first.Funs)
	if third := made(t, text); !same(second, third) {
		t.Errorf("two answers share memory: %+v, %+v", second, third)
	}
}

// share tells whether two texts have a byte of memory together.
func share(a, b string) bool {
	from, to := uintptr(unsafe.Pointer(unsafe.StringData(a))), uintptr(unsafe.Pointer(unsafe.StringData(b)))
	return len(a) > 0 && len(b) > 0 && from < to+uintptr(len(b)) && to < from+uintptr(len(a))
}
