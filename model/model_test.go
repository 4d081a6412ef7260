package model_test

import (
	"math"
	"slices"
	"strconv"
	"strings"
	"testing"
	"unsafe"

	"packtrail/api"
	"packtrail/check"
	"packtrail/model"
)

// same tells whether two runs show the same; an empty list may be nil or not (P3).
func same(a, b api.Shown) bool {
	return a.End == b.End && a.Err == b.Err && a.Last == b.Last && a.Steps == b.Steps && slices.Equal(a.Out, b.Out)
}

// done is what a run shows that comes to its end; out are the words that it tells.
func done(last, out string, steps int) api.Shown {
	return api.Shown{End: api.EndDone, Last: last, Out: strings.Fields(out), Steps: steps}
}

// failed is what a run shows that fails.
func failed(code api.Errno, out string, steps int) api.Shown {
	return api.Shown{End: api.EndFailed, Err: code, Out: strings.Fields(out), Steps: steps}
}

// tired is what a run shows that has no fuel any more.
func tired(out string, steps int) api.Shown {
	return api.Shown{End: api.EndFuel, Out: strings.Fields(out), Steps: steps}
}

// shows runs a program, and holds what it shows against what is wanted.
func shows(t *testing.T, text string, fuel int, want api.Shown) {
	t.Helper()
	if got, f := model.Run(text, fuel); !same(got, want) || f != (api.Fault{}) {
		t.Errorf("Run(%q, %d): %+v, %v; want %+v", text, fuel, got, f, want)
	}
}

// refuses asks for a run that may not be: the fault is told, and nothing else (P2).
func refuses(t *testing.T, text string, fuel int, code api.Errno, at int) {
	t.Helper()
	want := api.Fault{Code: code, At: at}
	if got, f := model.Run(text, fuel); !same(got, api.Shown{}) || f != want {
		t.Errorf("Run(%q, %d): %+v, %v; want %v", text, fuel, got, f, want)
	}
}

// tell is the program that has such stats in its main. Behind it stand e, which tells its argument and answers it, so that the order in which things are done is seen, and nothing, which has no return.
func tell(stats string) string {
	return "function main() " + stats + " end function e(a) emit a; return a; end function nothing(a, b) end"
}

// tells runs such stats; of their steps nothing is said.
func tells(t *testing.T, stats string, want api.Shown) {
	t.Helper()
	got, f := model.Run(tell(stats), api.MaxSteps)
	want.Steps = got.Steps
	if !same(got, want) || f != (api.Fault{}) {
		t.Errorf("%s: %+v, %v; want %+v", stats, got, f, want)
	}
}

// answers runs a program whose main returns an expression.
func answers(t *testing.T, expr, last string) {
	t.Helper()
	tells(t, "return "+expr+";", done(last, "", 0))
}

// fails runs stats that are to fail, behind what they tell.
func fails(t *testing.T, stats string, code api.Errno, out string) {
	t.Helper()
	tells(t, stats, failed(code, out, 0))
}

// F1: the fuel is from 0 to MaxSteps; that is told ahead of what is wrong with the text.
func TestFuelRange(t *testing.T) {
	for _, text := range []string{"function main() end", "", "function", "function main(a) emit x; end", strings.Repeat(" ", api.MaxText+1)} {
		for _, fuel := range []int{-1, api.MaxSteps + 1, math.MinInt, math.MaxInt, -api.MaxSteps, 1 << 32} {
			refuses(t, text, fuel, api.ErrRange, 0)
		}
	}
	shows(t, "function main() end", 0, done("nil", "", 0))
	shows(t, "function main() end", api.MaxSteps, done("nil", "", 0))
}

// F1: what is wrong with the text is told as Check tells it.
func TestCheckFault(t *testing.T) {
	for _, text := range []string{
		"", "main", "function main() x = 1 end", "function main() emit 08; end", strings.Repeat(" ", api.MaxText+1),
		"function main() emit 1; emit x; end", "function main() end function main() end", "function main(a) end", "function f() end",
		"function main() local x=1; local x=2; end", "function main() main = 1; end", "function main() emit main(1,2,3,4,5,6); end",
	} {
		_, f := check.Check(text)
		if f.Code == api.OK {
			t.Errorf("%q may be", text)
		}
		refuses(t, text, 0, f.Code, f.At)
		refuses(t, text, api.MaxSteps, f.Code, f.At)
	}
}

// F1: main is called, wherever it stands, and nothing else.
func TestMainIsCalled(t *testing.T) {
	shows(t, "function main() emit 6*7; return \"x\"; end", 100, done("x", "42", 6))
	shows(t, "function f() emit 1; end function main() emit 2; end function g() emit 3; end", 9, done("nil", "2", 2))
	shows(t, "function f() return 1; end function g() return 2; end function main() return g()*10+f(); end", 99, done("21", "", 12))
	shows(t, "function main() end function f() emit main; end", 9, done("nil", "", 0))
}

// F1: a step is each statement, each expression, and each round of an NFor.
func TestSteps(t *testing.T) {
	for stats, steps := range map[string]int{
		"":                                  0,
		"return 1;":                         2,
		"return nil;":                       2,
		"return true;":                      2,
		"return false;":                     2,
		"return \"a\";":                     2,
		"return main;":                      2,
		"return {};":                        2,
		"return -1;":                        3,
		"return not nil;":                   3,
		"return #{};":                       3,
		"return {}[1];":                     4,
		"return next({},nil);":              4,
		"return 1+2;":                       4,
		"return 1+2+3;":                     6,
		"return ((((1))));":                 2,
		"return 1 and 2;":                   4,
		"return nil and 2;":                 3,
		"return 1 or 2;":                    3,
		"return nil or 2;":                  4,
		"local a=1;":                        2,
		"local a=1; a=2;":                   4,
		"local t={}; t[1]=2;":               6,
		"local t={}; t[1+1]=2;":             8,
		"local t={}; t[1]={}; t[1][2]=3;":   12,
		"emit 1;":                           2,
		"emit 1; emit 2;":                   4,
		"nothing();":                        3,
		"nothing(1);":                       4,
		"nothing(1,2,3,4);":                 7,
		"return nothing();":                 3,
		"return e(1);":                      8,
		"if 1 then end":                     2,
		"if nil then else end":              2,
		"if 1 then emit 1; end":             4,
		"if 1 then else emit 1; end":        2,
		"if nil then else emit 1; end":      4,
		"while nil do end":                  2,
		"local a=1; while a do a=nil; end":  7,
		"local a=1; while a<3 do a=a+1;end": 3 + 3*3 + 2*4,
		"for i=1,0 do end":                  3,
		"for i=1,1 do end":                  4,
		"for i=1,3 do end":                  6,
		"for i=1,3 do emit i; end":          12,
		"for i=1,2 do for j=1,2 do end end": 3 + 2*(1+3+2),
		"return 1; return 2;":               2,
		"for i=1,3 do return i; end":        6,
	} {
		got, f := model.Run(tell(stats), api.MaxSteps)
		if got.Steps != steps || got.End != api.EndDone || f != (api.Fault{}) {
			t.Errorf("%s: %+v, %v; want %d steps", stats, got, f, steps)
		}
	}
}

// F1: a run ends where a step more would be counted than the fuel; what was told stays.
func TestFuelEnds(t *testing.T) {
	const text = "function main() emit 6*7; return \"x\"; end"
	shows(t, text, 0, tired("", 0))
	shows(t, text, 1, tired("", 1))
	shows(t, text, 3, tired("", 3))
	shows(t, text, 4, tired("42", 4))
	shows(t, text, 5, tired("42", 5))
	shows(t, text, 6, done("x", "42", 6))
	shows(t, text, 7, done("x", "42", 6))
	shows(t, tell("for i=1,2 do end"), 2, tired("", 2))
	shows(t, tell("for i=1,2 do end"), 3, tired("", 3))
	shows(t, tell("for i=1,2 do end"), 4, tired("", 4))
	shows(t, tell("for i=1,2 do end"), 5, done("nil", "", 5))
	shows(t, tell("while true do end"), 5, tired("", 5))
	shows(t, tell("while true do end"), api.MaxSteps, tired("", api.MaxSteps))
	shows(t, tell("for i=1,9223372036854775807 do end"), api.MaxSteps, tired("", api.MaxSteps))
	shows(t, tell("for i=1,997 do end"), api.MaxSteps, done("nil", "", api.MaxSteps))
	shows(t, tell("for i=1,998 do end"), api.MaxSteps, tired("", api.MaxSteps))
	shows(t, "function main() emit 1; main(); end", 12, tired("1 1 1", 12))
}

// F1, F2: what fails is told only where the fuel goes so far; failing is no step itself.
func TestFuelAndFailure(t *testing.T) {
	shows(t, tell("emit 1; return 1+nil;"), 5, tired("1", 5))
	shows(t, tell("emit 1; return 1+nil;"), 6, failed(api.ErrKind, "1", 6))
	shows(t, tell("emit 1; return 1+nil;"), 7, failed(api.ErrKind, "1", 6))
	shows(t, tell("for i=1,nil do emit 1; end"), 2, tired("", 2))
	shows(t, tell("for i=1,nil do emit 1; end"), 3, failed(api.ErrKind, "", 3))
	shows(t, tell("local x=1; x();"), 4, tired("", 4))
	shows(t, tell("local x=1; x();"), 5, failed(api.ErrKind, "", 5))
}

// F2: the values that an expression is by itself.
func TestPlainValues(t *testing.T) {
	answers(t, "0", "0")
	answers(t, "9223372036854775807", "9223372036854775807")
	answers(t, `""`, "")
	answers(t, `"a b"`, "a b")
	answers(t, `"`+strings.Repeat("m", api.MaxLong)+`"`, strings.Repeat("m", api.MaxLong))
	answers(t, "nil", "nil")
	answers(t, "true", "true")
	answers(t, "false", "false")
	answers(t, "{}", "table")
	answers(t, "main", "function")
	answers(t, "{}==nil", "false")
	answers(t, "nil==false", "false")
	answers(t, "true==true", "true")
	answers(t, `"1"==1`, "false")
}

// F2: a name is a local, or a function, which goes by how many are ahead of it.
func TestNames(t *testing.T) {
	answers(t, "main==main", "true")
	answers(t, "main==e", "false")
	answers(t, "e==nothing", "false")
	tells(t, "local f=e; return f(3);", done("3", "3", 0))
	tells(t, "local e=nothing; return e(3);", done("nil", "", 0))
	tells(t, "local a=1; local b=2; local c=a; a=b; b=c; return a..b;", done("21", "", 0))
	tells(t, "local a=1; if a then local a=a+1; emit a; a=9; emit a; end return a;", done("1", "2 9", 0))
	tells(t, "local a=1; if a then local b=2; end local c=3; return a..c;", done("13", "", 0))
	tells(t, "for i=1,3 do local a=nil; if i==2 then local b=i; a=b; end emit a; end", done("nil", "nil 2 nil", 0))
	tells(t, "for i=1,2 do for i=5,6 do emit i; end emit i; end", done("nil", "5 6 1 5 6 2", 0))
	most := ""
	for i := range api.MaxLocals {
		most += "local v" + strconv.Itoa(i) + "=" + strconv.Itoa(i) + ";"
	}
	tells(t, most+"return v0..v1..v29..v15;", done("012915", "", 0))
	twelve := ""
	for i := range api.MaxFuns - 1 {
		twelve += "function f" + strconv.Itoa(i) + "() return " + strconv.Itoa(i) + "; end "
	}
	shows(t, twelve+"function main() return f10()..f0()..f9(); end", 99, done("1009", "", 3+3*4))
}

// F2: new tables are not the same as others, and at most MaxTables.
func TestNewTables(t *testing.T) {
	answers(t, "{}=={}", "false")
	tells(t, "local t={}; local u=t; return t==u;", done("true", "", 0))
	tells(t, "local t={}; local u=t; u[1]=5; return t[1];", done("5", "", 0))
	tells(t, "local t={}; local u={}; u[1]=5; return t[1];", done("nil", "", 0))
	tells(t, "for i=1,200 do local t={}; end return 1;", done("1", "", 0))
	fails(t, "for i=1,199 do local t={}; end emit {}; emit {};", api.ErrSize, "table")
	fails(t, "for i=1,200 do local t={}; end return {};", api.ErrSize, "")
}

// F2: what stands in tables, under keys of all kinds but nil.
func TestIndex(t *testing.T) {
	answers(t, "{}[1]", "nil")
	answers(t, "{}[nil]", "nil")
	tells(t, `local t={}; t["1"]=2; t[1]=3; t[true]=4; t[t]=5; t[e]=6; return t["1"]..t[1]..t[true]..t[t]..t[e];`, done("23456", "", 0))
	tells(t, "local t={}; t[false]=1; return t[nil];", done("nil", "", 0))
	tells(t, "local t={}; t[1]={}; t[1][2]={}; t[1][2][3]=7; return t[1][2][3];", done("7", "", 0))
	tells(t, "local t={}; t[1]=main; t[1]=e; return t[1](8);", done("8", "8", 0))
	tells(t, "local t={}; t[1]=5; t[1]=nil; t[2]=nil; return t[1];", done("nil", "", 0))
	for _, none := range []string{"nil", "true", "1", `"a"`, "main"} {
		fails(t, "return "+none+"[e(1)];", api.ErrKind, "1")
		fails(t, "local t="+none+"; t[e(1)]=e(2);", api.ErrKind, "1 2")
		fails(t, "local t="+none+"; t[nil]=e(2);", api.ErrKind, "2")
	}
	fails(t, "local t={}; t[nil]=e(1);", api.ErrKind, "1")
	fails(t, "local t={}; t[nil]=nil;", api.ErrKind, "")
	fails(t, "local t={}; t[1][e(1)]=e(2);", api.ErrKind, "1 2")
	fails(t, "return {}[1][2];", api.ErrKind, "")
	fails(t, "local t={}; for i=1,100 do t[i]=i; end emit #t; t[1]=5; t[1]=nil; t[0]=1; emit #t; t[1]=1;", api.ErrSize, "100 0")
	tells(t, "local t={}; for i=1,100 do t[i]=i; end t[101]=nil; t[100]=1; return #t;", done("100", "", 0))
}

// F2: kids are done in order, each ahead of the node itself.
func TestOrder(t *testing.T) {
	tells(t, "return e(1)+e(2)*e(3);", done("7", "1 2 3", 0))
	tells(t, "return (e(1)..e(2))..e(3);", done("123", "1 2 3", 0))
	tells(t, "return nothing(e(1),e(2),e(3),e(4),e(5));", done("nil", "1 2 3 4 5", 0))
	tells(t, "emit e(1);", done("nil", "1 1", 0))
	tells(t, "emit e(e(1));", done("nil", "1 1 1", 0))
	tells(t, "return next(e({}),e(nil));", done("nil", "table nil", 0))
	tells(t, "return e({})[e(2)];", done("nil", "table 2", 0))
	tells(t, "for i=e(1),e(2) do emit i*5; end", done("nil", "1 2 5 10", 0))
	tells(t, "return e(e)(2);", done("2", "function 2", 0))
	tells(t, "local t={}; t[1]={}; t[e(1)][e(2)]=e(3); return t[1][2];", done("3", "1 2 3", 0))
	fails(t, "return nil+e(1);", api.ErrKind, "1")
	fails(t, "return -e(nil);", api.ErrKind, "nil")
	fails(t, "return next(e(1),e(2));", api.ErrKind, "1 2")
	fails(t, "return e(1)[e(2)];", api.ErrKind, "1 2")
	fails(t, "for i=e(nil),e(2) do emit 3; end", api.ErrKind, "nil 2")
	fails(t, "return nil(e(1),e(2));", api.ErrKind, "1 2")
}

// F2: the table that is set, or asked, is as it is then, whatever the kids did to it.
func TestTablesAsTheyAre(t *testing.T) {
	const text = "function main() local t={}; t[1]=put(t,2); emit t[1]; emit t[put(t,1)]; t[3]=t[put(t,3)]; return t[3]..#t; end function put(t,k) t[k]=k*10; return k; end"
	shows(t, text, api.MaxSteps, api.Shown{End: api.EndDone, Last: "303", Out: []string{"2", "10"}, Steps: 9 + 4 + 7 + 9 + 7 + 3*8})
}

// F2: operations are those of chapter 1.
func TestOperations(t *testing.T) {
	for expr, last := range map[string]string{
		"2+3": "5", "2-3": "-1", "2*3": "6", "-7/2": "-4", "-7%2": "1", "7%-2": "-1", `"a".."b"`: "ab", `1 .."b"`: "1b", "1==1": "true", "1==2": "false",
		"1<2": "true", "2<2": "false", "2<=2": "true", "3<=2": "false", `"a"<"b"`: "true", "9223372036854775807+1": "-9223372036854775808",
		"not nil": "true", "not false": "true", "not 0": "false", `not ""`: "false", "- -5": "5", "-0": "0", "not not 1": "true",
		"#\"\"": "0", "#\"abc\"": "3", "#{}": "0",
	} {
		answers(t, expr, last)
	}
	for expr, code := range map[string]api.Errno{
		"1+nil": api.ErrKind, "nil+1": api.ErrKind, "1/0": api.ErrZero, "1%0": api.ErrZero, "nil/0": api.ErrKind, `1<"a"`: api.ErrKind, "nil<=nil": api.ErrKind,
		`"a"..nil`: api.ErrKind, "-nil": api.ErrKind, `-"1"`: api.ErrKind, "#nil": api.ErrKind, "#1": api.ErrKind, "#true": api.ErrKind, "#main": api.ErrKind,
		`"` + strings.Repeat("m", 299) + `"..10`: api.ErrSize, "{}..{}": api.ErrKind,
	} {
		fails(t, "return "+expr+";", code, "")
	}
}

// F2: and, or do their second kid only where it is asked for, and give a kid's value as it is.
func TestAndOr(t *testing.T) {
	for _, no := range []string{"nil", "false"} {
		tells(t, "return e("+no+") and e(2);", done(no, no, 0))
		tells(t, "return e("+no+") or e(2);", done("2", no+" 2", 0))
		tells(t, "return e(1) and e("+no+");", done(no, "1 "+no, 0))
		tells(t, "return e("+no+") or e("+no+");", done(no, no+" "+no, 0))
	}
	for _, yes := range []string{"true", "0", "1", "{}", "main"} {
		word := map[string]string{"{}": "table", "main": "function"}[yes]
		if word == "" {
			word = yes
		}
		tells(t, "return e("+yes+") and e(2);", done("2", word+" 2", 0))
		tells(t, "return e("+yes+") or e(2);", done(word, word, 0))
	}
	answers(t, `"" and 2`, "2")
	answers(t, "nil and 1+nil", "nil")
	answers(t, "1 or 1+nil", "1")
	answers(t, "nil and 1 or 2", "2")
	fails(t, "return 1 and 1+nil;", api.ErrKind, "")
	fails(t, "return nil or 1+nil;", api.ErrKind, "")
}

// F2: NLen and NNext.
func TestLenAndNext(t *testing.T) {
	tells(t, "local t={}; t[1]=1; t[2]=2; t[4]=4; return #t;", done("2", "", 0))
	tells(t, "local t={}; t[2]=1; emit #t; t[1]=2; emit #t; t[1]=nil; emit #t;", done("nil", "0 2 0", 0))
	tells(t, "local t={}; t[3]=1; t[1]=2; local k=next(t,nil); while k do emit k; k=next(t,k); end", done("nil", "3 1", 0))
	tells(t, "local t={}; t[3]=1; t[3]=nil; return next(t,nil);", done("nil", "", 0))
	fails(t, "return next({},1);", api.ErrName, "")
	fails(t, "local t={}; t[3]=1; t[3]=nil; return next(t,3);", api.ErrName, "")
	for _, none := range []string{"nil", "true", "1", `"a"`, "main"} {
		fails(t, "return next("+none+",nil);", api.ErrKind, "")
	}
}

// F2: a call has its own locals; its parameters are the arguments, nil where there are too few.
func TestCalls(t *testing.T) {
	const take = " function take(a,b,c) emit a; emit b; emit c; local d=a; a=9; return d; end"
	for args, out := range map[string]string{"": "nil nil nil", "1": "1 nil nil", "1,2": "1 2 nil", "1,2,3": "1 2 3", "1,2,3,4": "1 2 3", "1,2,3,4,5": "1 2 3"} {
		text := tell("return take("+args+");") + take
		got, _ := model.Run(text, api.MaxSteps)
		if last := strings.Fields(out)[0]; !same(got, done(last, out, got.Steps)) {
			t.Errorf("take(%s): %+v", args, got)
		}
	}
	tells(t, "local a=1; e(2); nothing(3,4); return a;", done("1", "2", 0))
	tells(t, "local x=5; local y=nothing(x); return y;", done("nil", "", 0))
	shows(t, "function main() return fac(10); end function fac(n) if n<2 then return 1; end return n*fac(n-1); end", api.MaxSteps, done("3628800", "", 4+9*12+6))
	shows(t, "function main() even(3); end function even(n) emit n; if n==0 then return 1; end odd(n-1); end function odd(n) emit -n; if n==0 then return 0; end even(n-1); end", api.MaxSteps, done("nil", "3 -2 1 0", 4+12+13+12+9))
	for _, none := range []string{"nil", "true", "1", `"a"`, "{}"} {
		fails(t, "local x="+none+"; x(e(1));", api.ErrKind, "1")
		fails(t, "local x="+none+"; emit x(e(1));", api.ErrKind, "1")
	}
}

// F2: at most MaxCalls calls, that of main among them, have not come back.
func TestMostCalls(t *testing.T) {
	deep := func(n int) string {
		return "function main() emit 0; return f(" + strconv.Itoa(n) + "); end function f(n) if n<2 then return \"x\"; end return f(n-1); end"
	}
	shows(t, deep(api.MaxCalls-1), api.MaxSteps, done("x", "0", 6+38*10+6))
	shows(t, deep(api.MaxCalls), api.MaxSteps, failed(api.ErrSize, "0", 6+39*10))
	shows(t, "function main() main(); end", api.MaxSteps, failed(api.ErrSize, "", 3*api.MaxCalls))
	// Calls that have come back do not count; what is no function is told ahead of too many calls.
	tells(t, "for i=1,60 do nothing(); e(1); end emit 2;", done("nil", strings.Repeat("1 ", 60)+"2", 0))
	shows(t, "function main() local f=main; g(1); end function g(n) if n==39 then n(); end g(n+1); end", api.MaxSteps, failed(api.ErrKind, "", 2+4+38*10+4+3))
}

// F2: a return ends its function's call, from however deep within, and nothing else.
func TestReturn(t *testing.T) {
	const g = " function g(n) for i=1,3 do while true do if i==n then return i*10; else emit i; end if true then n=i+1; return g2(n); end end end end function g2(n) return n; end"
	shows(t, tell("emit g(1); emit g(2); return g(3);")+g, api.MaxSteps, api.Shown{End: api.EndDone, Last: "2", Out: []string{"10", "1", "2", "1"}, Steps: 4 + 14 + 4 + 24 + 4 + 24})
	tells(t, "emit 1; return 2; emit 3;", done("2", "1", 0))
	tells(t, "while true do return 5; end", done("5", "", 0))
	tells(t, "for i=3,9 do if i==5 then return i; end end return 0;", done("5", "", 0))
	tells(t, "return e(1)+e(2);", done("3", "1 2", 0))
}

// F2: NIf takes one of its blocks, or none.
func TestIf(t *testing.T) {
	for _, no := range []string{"nil", "false", "{}[1]"} {
		tells(t, "if "+no+" then emit 1; end emit 2;", done("nil", "2", 0))
		tells(t, "if "+no+" then emit 1; else emit 3; end emit 2;", done("nil", "3 2", 0))
		tells(t, "while "+no+" do emit 1; end emit 2;", done("nil", "2", 0))
	}
	for _, yes := range []string{"true", "0", `""`, "{}", "main"} {
		tells(t, "if "+yes+" then emit 1; end emit 2;", done("nil", "1 2", 0))
		tells(t, "if "+yes+" then emit 1; else emit 3; end emit 2;", done("nil", "1 2", 0))
		tells(t, "while "+yes+" do emit 1; return 2; end emit 2;", done("2", "1", 0))
	}
}

// F2: NWhile asks its condition again ahead of each round.
func TestWhile(t *testing.T) {
	tells(t, "local a=0; while e(a<2) do emit a; a=a+1; end return a;", done("2", "true 0 true 1 false", 0))
}

// F2: NFor goes through all numbers from the first up to the last, which are reckoned once.
func TestFor(t *testing.T) {
	tells(t, "for i=2,4 do emit i; end", done("nil", "2 3 4", 0))
	tells(t, "for i=2,2 do emit i; end", done("nil", "2", 0))
	tells(t, "for i=3,2 do emit i; end", done("nil", "", 0))
	tells(t, "for i=-1,1 do emit i; end", done("nil", "-1 0 1", 0))
	tells(t, "local n=2; for i=1,n do n=n+1; emit n; end", done("nil", "3 4", 0))
	tells(t, "for i=9223372036854775806,9223372036854775807 do emit i; end return 1;", done("1", "9223372036854775806 9223372036854775807", 0))
	tells(t, "local m=-9223372036854775807-1; for i=m,m+1 do emit i; end for i=9223372036854775807,m do emit 1; end", done("nil", "-9223372036854775808 -9223372036854775807", 0))
	for _, none := range []string{"nil", "true", `"1"`, "{}", "main"} {
		fails(t, "for i="+none+",e(2) do emit 1; end", api.ErrKind, "2")
		fails(t, "for i=e(2),"+none+" do emit 1; end", api.ErrKind, "2")
		fails(t, "for i="+none+","+none+" do emit 1; end", api.ErrKind, "")
	}
}

// F3: what is told, and main's value's Text.
func TestShown(t *testing.T) {
	tells(t, `emit nil; emit true; emit false; emit -5; emit "a"; emit {}; emit main;`, done("nil", "nil true false -5 a table function", 0))
	shows(t, `function main() emit ""; emit " "; return ""; end`, 9, api.Shown{End: api.EndDone, Out: []string{"", " "}, Steps: 6})
	tells(t, `emit 1; emit 2; return "x"+1;`, failed(api.ErrKind, "1 2", 0))
}

// P3: the texts that are shown share memory neither with each other nor with the program's text.
func TestNewMemory(t *testing.T) {
	text := strings.Clone(`function main() local s="abc"; local t={}; t[1]=s; emit s; emit s; emit t[1]; emit "abc"; emit true; emit true; emit 7; emit 7; return s; end`)
	first, _ := model.Run(text, 99)
	second, _ := model.Run(text, 99)
	all := append(append([]string{text, first.Last, second.Last}, first.Out...), second.Out...)
	for i, a := range all {
		for _, b := range all[:i] {
			if share(a, b) {
				t.Errorf("%q and %q share memory", a, b)
			}
		}
	}
	first.Out[0] = "x"
	if !same(second, api.Shown{End: api.EndDone, Last: "abc", Out: []string{"abc", "abc", "abc", "abc", "true", "true", "7", "7"}, Steps: 28}) {
		t.Errorf("%+v", second)
	}
}

// share tells whether two texts have a byte of memory together.
func share(a, b string) bool {
	from, to := uintptr(unsafe.Pointer(unsafe.StringData(a))), uintptr(unsafe.Pointer(unsafe.StringData(b)))
	return len(a) > 0 && len(b) > 0 && from < to+uintptr(len(b)) && to < from+uintptr(len(a))
}
