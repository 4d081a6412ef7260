package compile_test

import (
	"fmt"
	"slices"
	"strings"
	"testing"

	"packtrail/api"
	"packtrail/check"
	"packtrail/machine"
	"packtrail/model"
	"packtrail/sample"
	"packtrail/value"
)

// goes is the state in which a program in orders is, from its beginning on, with so much fuel.
func goes(t *testing.T, p api.Code, fuel int) api.State {
	t.Helper()
	s, code := machine.Begin(p)
	if code != api.OK {
		t.Fatalf("Begin(%+v): %d", p, code)
	}
	s, code = machine.Go(p, s, fuel)
	if code != api.OK {
		t.Fatalf("Go(%+v, %d): %d", p, fuel, code)
	}
	return s
}

// agrees tells whether a machine's run is as I2 says, where a model's run shows this.
func agrees(s api.State, shown api.Shown) bool {
	switch shown.End {
	case api.EndDone:
		return s.End == api.EndDone && slices.Equal(s.Out, shown.Out) && value.Text(s.Last) == shown.Last
	case api.EndFailed:
		return s.End == api.EndFailed && slices.Equal(s.Out, shown.Out) && s.Err == shown.Err
	}
	return len(s.Out) >= len(shown.Out) && slices.Equal(s.Out[:len(shown.Out)], shown.Out)
}

// means holds a program's orders against its text, with the fuel n of the model, and with just as much as that run took; and gives what it shows.
func means(t *testing.T, text string, n int) api.Shown {
	t.Helper()
	p := made(t, text)
	shown := meansIn(t, p, text, n)
	meansIn(t, p, text, shown.Steps)
	return shown
}

func meansIn(t *testing.T, p api.Code, text string, n int) api.Shown {
	t.Helper()
	shown, f := model.Run(text, n)
	if s := goes(t, p, 40*n+40); !agrees(s, shown) || f != (api.Fault{}) {
		t.Fatalf("%q with %d: %+v, %v; its orders: %d %d %q %v; %+v", text, n, shown, f, s.End, s.Err, s.Out, s.Last, p)
	}
	return shown
}

// meansAtAll does so with each fuel up to one.
func meansAtAll(t *testing.T, text string, most int) {
	t.Helper()
	p := made(t, text)
	for n := range most + 1 {
		meansIn(t, p, text, n)
	}
}

// tell is the program that has such stats in its main. Ahead of it stand e, which tells its argument and answers it, so that the order in which things are done is seen, and nothing, which has no return.
func tell(stats string) string {
	return "function e(a) emit a; return a; end function nothing(a,b) end function main() " + stats + " end"
}

// tells runs the orders of such stats, and holds what they tell against the words that are wanted, and all against the model with each fuel.
func tells(t *testing.T, stats, out string) api.State {
	t.Helper()
	s := goes(t, made(t, tell(stats)), api.MaxFuel)
	if !slices.Equal(s.Out, strings.Fields(out)) {
		t.Errorf("%s: %q; want %s", stats, s.Out, out)
	}
	meansAtAll(t, tell(stats), 60)
	means(t, tell(stats), api.MaxSteps)
	return s
}

// answers asks for stats that come to an end, with what main answers.
func answers(t *testing.T, stats, out, last string) {
	t.Helper()
	if s := tells(t, stats, out); s.End != api.EndDone || value.Text(s.Last) != last {
		t.Errorf("%s: %d, %v; want %s", stats, s.End, s.Last, last)
	}
}

// fails asks for stats that fail, behind what they tell.
func fails(t *testing.T, stats, out string, code api.Errno) {
	t.Helper()
	if s := tells(t, stats, out); s.End != api.EndFailed || s.Err != code {
		t.Errorf("%s: %d, %d; want %d", stats, s.End, s.Err, code)
	}
}

// I2: the values that an expression is by itself.
func TestPlainValues(t *testing.T) {
	for expr, last := range map[string]string{
		"0": "0", "9223372036854775807": "9223372036854775807", `""`: "", `"a b"`: "a b", "nil": "nil", "true": "true", "false": "false", "{}": "table", "main": "function",
		"nil==false": "false", `"1"==1`: "false", "0==false": "false", "{}=={}": "false", "e==e": "true", "e==main": "false", "e==nothing": "false", "0==e": "false",
	} {
		answers(t, "return "+expr+";", "", last)
	}
	answers(t, `emit nil; emit true; emit false; emit 0-5; emit "a"; emit {}; emit main; emit 5; emit "5";`, "nil true false -5 a table function 5 5", "nil")
}

// I2: a name is a local, with a value of its own, or a function.
func TestNames(t *testing.T) {
	answers(t, "local f=e; return f(3);", "3", "3")
	answers(t, "local e=nothing; return e(3);", "", "nil")
	answers(t, "local a=1; local b=a; a=2; emit b; b=3; emit a; return a..b;", "1 2", "23")
	answers(t, "local a=1; local b=2; local c=a; a=b; b=c; return a..b;", "", "21")
	answers(t, "local a=1; if a then local a=a+1; emit a; a=9; emit a; end return a;", "2 9", "1")
	answers(t, "local a=1; if a then local b=2; local c=3; emit b..c; end local d=4; if d then local g=5; emit a..d..g; end return a..d;", "23 145", "14")
	answers(t, "for i=1,3 do local a=nil; if i==2 then local b=i; a=b; end emit a; end", "nil 2 nil", "nil")
	answers(t, "for i=1,2 do for i=5,6 do emit i; end emit i; end", "5 6 1 5 6 2", "nil")
	answers(t, "local a=1; for i=1,2 do local b=i; for j=1,2 do local c=j; emit a..b..c..i..j; end local d=7; emit b..d; end return a;", "11111 11212 17 12121 12222 27", "1")
	all := numbered(api.MaxLocals, "local v#=#;")
	for at := range api.MaxLocals {
		changed := strings.ReplaceAll("v#=v#+100; emit v#;", "#", fmt.Sprint(at))
		answers(t, all+changed+"return v0+v1+v2+v14+v15+v28+v29;", fmt.Sprint(at+100), fmt.Sprint(89+100*strings.Count(" 0 1 2 14 15 28 29 ", fmt.Sprint(" ", at, " "))))
	}
}

// I2: a local stays as it was, till its new value is there, however that one asks for it.
func TestChange(t *testing.T) {
	answers(t, "local a=1; a=a; a=a+a; a=a*a-a; return a;", "", "2")
	answers(t, "local a=1; local b=nil; a=b or a; return a;", "", "1")
	answers(t, "local a=1; local b=2; a=b and a; return a;", "", "1")
	answers(t, "local a=nil; a=a or 5; emit a; a=a or 6; emit a; a=a and a+1; return a;", "5 5", "6")
	answers(t, "local a=1; local b=nil; a=b and 2 or b or a; return a;", "", "1")
	answers(t, "local a=1; a=(nil or 2)+a; emit a; a=a-(nil or a); emit a; a=-(nil or 4)-a; return a;", "3 0", "-4")
	answers(t, "local a=1; a=nil or (nil or a); return a;", "", "1")
	answers(t, "local a=2; a=e(a)*a+e(a+1)*a; return a;", "2 3", "10")
	answers(t, "local a={}; a[1]=7; a=a[1]; return a;", "", "7")
	answers(t, "local a={}; a[a]=8; a=a[a]; return a;", "", "8")
	answers(t, "local a=e; a=a(a); a=a(5); return a;", "function 5", "5")
	answers(t, "local a={}; a[1]=1; a=next(a,nil); a=not a; return a;", "", "false")
	answers(t, `local a="xyz"; a=#a; a=-a; return a;`, "", "-3")
	answers(t, `local a="x"; a=a..a; a=(1 ..a)..(a..2); return a;`, "", "1xxxx2")
	answers(t, "local a=1; if a then local a=nil or a; emit a; end local b=a and a; return b;", "1", "1")
}

// I2: tables, and what stands in them.
func TestTables(t *testing.T) {
	answers(t, "local t={}; local u=t; u[1]=5; return t[1];", "", "5")
	answers(t, "local t={}; local u={}; u[1]=5; return t[1];", "", "nil")
	answers(t, "local t={}; emit t[1]; emit t[nil]; t[1]=5; t[1]=nil; t[2]=nil; return #t;", "nil nil", "0")
	answers(t, `local t={}; t["1"]=2; t[1]=3; t[true]=4; t[t]=5; t[e]=6; return t["1"]..t[1]..t[true]..t[t]..t[e];`, "", "23456")
	answers(t, "local t={}; t[1]={}; t[1][2]={}; t[1][2][3]=7; return t[1][2][3];", "", "7")
	answers(t, "local t={}; t[1]=main; t[1]=e; return t[1](8);", "8", "8")
	answers(t, "local t={}; t[3]=1; t[1]=2; local k=next(t,nil); while k do emit k; k=next(t,k); end return #t;", "3 1", "1")
	answers(t, "for i=1,200 do local t={}; end return 1;", "", "1")
	fails(t, "for i=1,199 do local t={}; end emit {}; emit {};", "table", api.ErrSize)
	fails(t, "local t={}; for i=1,100 do t[i]=i; end emit #t; t[0]=1;", "100", api.ErrSize)
	fails(t, "local t={}; t[nil]=e(1);", "1", api.ErrKind)
	fails(t, "return next({},e(1));", "1", api.ErrName)
	for _, none := range []string{"nil", "true", "1", `"a"`, "main"} {
		fails(t, "return "+none+"[e(1)];", "1", api.ErrKind)
		fails(t, "local t="+none+"; t[e(1)]=e(2);", "1 2", api.ErrKind)
		fails(t, "return next("+none+",e(1));", "1", api.ErrKind)
	}
	for _, none := range []string{"nil", "true", "1", "main"} {
		fails(t, "emit 1; return #"+none+";", "1", api.ErrKind)
	}
}

// I2: kids are done in order, each ahead of the node itself.
func TestOrder(t *testing.T) {
	answers(t, "return e(1)+e(2)*e(3);", "1 2 3", "7")
	answers(t, "return (e(1)-e(2))-(e(3)-e(4));", "1 2 3 4", "0")
	answers(t, "return nothing(e(1),e(2),e(3),e(4),e(5));", "1 2 3 4 5", "nil")
	answers(t, "return e(e(1)+e(2));", "1 2 3", "3")
	answers(t, "return next(e({}),e(nil));", "table nil", "nil")
	answers(t, "return e({})[e(2)];", "table 2", "nil")
	answers(t, "for i=e(1),e(2) do emit i*5; end", "1 2 5 10", "nil")
	answers(t, "return e(e)(2);", "function 2", "2")
	answers(t, "local t={}; t[1]={}; t[e(1)][e(2)]=e(3); return t[1][2];", "1 2 3", "3")
	fails(t, "return nil+e(1);", "1", api.ErrKind)
	fails(t, "return e(1)[e(2)];", "1 2", api.ErrKind)
	fails(t, "for i=e(nil),e(2) do emit 3; end", "nil 2", api.ErrKind)
	fails(t, "return nil(e(1),e(2));", "1 2", api.ErrKind)
}

// I2: operations, and how they fail.
func TestOperations(t *testing.T) {
	for expr, last := range map[string]string{
		"2+3": "5", "2-3": "-1", "2*3": "6", "-7/2": "-4", "-7%2": "1", "7%-2": "-1", `"a".."b"`: "ab", `1 .."b"`: "1b", "1==1": "true", "1==2": "false",
		"1<2": "true", "2<1": "false", "2<2": "false", "2<=2": "true", "3<=2": "false", `"a"<"b"`: "true", "9223372036854775807+1": "-9223372036854775808",
		"not nil": "true", "not 0": "false", "- -5": "5", "-0": "0", "not not 1": "true", `#""`: "0", `#"abc"`: "3", "#{}": "0", "10-2-3": "5", "2-(3-4)": "3",
	} {
		answers(t, "return "+expr+";", "", last)
		answers(t, "local a="+expr+"; local b=nil; b="+expr+"; emit a==b; return a;", "true", last)
	}
	for expr, code := range map[string]api.Errno{
		"1+nil": api.ErrKind, "nil+1": api.ErrKind, "1/0": api.ErrZero, "1%0": api.ErrZero, "nil/0": api.ErrKind, `1<"a"`: api.ErrKind, "nil<=nil": api.ErrKind,
		`"a"..nil`: api.ErrKind, "-nil": api.ErrKind, `-"1"`: api.ErrKind, `"` + strings.Repeat("m", 299) + `"..10`: api.ErrSize, "{}..{}": api.ErrKind,
	} {
		fails(t, "emit 1; return "+expr+";", "1", code)
		fails(t, "emit 1; if nil then emit 2; else emit 3; end local a="+expr+"; emit 4;", "1 3", code)
	}
}

// I2: and, or do their second kid only where it is asked for, and give a kid's value as it is.
func TestAndOr(t *testing.T) {
	for _, no := range []string{"nil", "false"} {
		answers(t, "return e("+no+") and e(2);", no, no)
		answers(t, "return e("+no+") or e(2);", no+" 2", "2")
		answers(t, "return e(1) and e("+no+");", "1 "+no, no)
		answers(t, "return e("+no+") or e("+no+");", no+" "+no, no)
		answers(t, "local a="+no+"; local b=2; emit a and b; emit a or b; emit b and a; return b or a;", no+" 2 "+no, "2")
	}
	for _, yes := range []string{"true", "0", `"a"`} {
		word := strings.Trim(yes, `"`)
		answers(t, "return e("+yes+") and e(2);", word+" 2", "2")
		answers(t, "return e("+yes+") or e(2);", word, word)
	}
	answers(t, "emit 1 and 2 and 3; emit nil or false or 3; emit 1 and nil or 3; return nil and 1 or nil and 2;", "3 3 3", "nil")
	answers(t, "emit (nil or 1)+(2 and 3); return nothing(nil or e(1), 2 and e(3));", "4 1 3", "nil")
	answers(t, "if e(nil) or e(1) then emit 2; end if e(1) and e(nil) then emit 3; else emit 4; end while e(nil) or e(false) do emit 5; end", "nil 1 2 1 nil 4 nil false", "nil")
	answers(t, "return nil and 1+nil;", "", "nil")
	answers(t, "return 1 or 1+nil;", "", "1")
	fails(t, "return 1 and 1+nil;", "", api.ErrKind)
	fails(t, "return nil or 1+nil;", "", api.ErrKind)
}

// I2: a call has its own locals; its parameters are the arguments, nil where there are too few.
func TestCalls(t *testing.T) {
	const take = " function take(a,b,c) emit a; emit b; emit c; local d=a; a=9; return d; end"
	for args, out := range map[string]string{"": "nil nil nil", "1": "1 nil nil", "1,2": "1 2 nil", "1,2,3": "1 2 3", "1,2,3,4": "1 2 3", "1,2,3,4,5": "1 2 3"} {
		text := tell("local x=7; take("+args+"); emit x; return take("+args+");") + take
		s := goes(t, made(t, text), api.MaxFuel)
		want := strings.Fields(out + " 7 " + out)
		if !slices.Equal(s.Out, want) || value.Text(s.Last) != want[0] {
			t.Errorf("take(%s): %q, %v", args, s.Out, s.Last)
		}
		meansAtAll(t, text, 60)
	}
	answers(t, "local a=1; e(2); nothing(3,4); return a;", "2", "1")
	answers(t, "local x=5; local y=nothing(x); emit x; return y;", "5", "nil")
	answers(t, "local x=5; emit e(x)+e(x+1)*e(x+2); return x;", "5 6 7 47", "5")
	for _, none := range []string{"nil", "true", "1", `"a"`, "{}"} {
		fails(t, "local x="+none+"; x(e(1));", "1", api.ErrKind)
		fails(t, "local x="+none+"; emit x(e(1));", "1", api.ErrKind)
	}
	answers(t, "for i=1,60 do nothing(); end emit 2;", "2", "nil")
	means(t, "function main() return fac(10); end function fac(n) if n<2 then return 1; end return n*fac(n-1); end", api.MaxSteps)
	means(t, "function f(n) if n<2 then return n; end return f(n-1)+f(n-2); end function main() emit f(5); return f(6); end", api.MaxSteps)
}

// I2: as many calls as may be have not come back, and one more.
func TestMostCalls(t *testing.T) {
	for n, end := range map[int]int{api.MaxCalls - 2: api.EndDone, api.MaxCalls - 1: api.EndDone, api.MaxCalls: api.EndFailed} {
		text := fmt.Sprint("function main() emit 0; return f(", n, "); end function f(n) emit n; if n<2 then return \"x\"; end return f(n-1); end")
		if shown := means(t, text, api.MaxSteps); shown.End != end {
			t.Errorf("%d calls: %+v", n, shown)
		}
	}
	means(t, "function main() emit 1; main(); end", api.MaxSteps)
	means(t, "function main() g(1); end function g(n) if n==39 then n(); end g(n+1); end", api.MaxSteps)
}

// I2: a return ends its function's call, from however deep within; a block without one ends with nil.
func TestReturn(t *testing.T) {
	answers(t, "", "", "nil")
	answers(t, "emit 1; return 2; emit 3; return 4;", "1", "2")
	answers(t, "if true then return 1; end return 2;", "", "1")
	answers(t, "if nil then return 1; end", "", "nil")
	answers(t, "if nil then return 1; else return 2; end", "", "2")
	answers(t, "while true do return 5; end", "", "5")
	answers(t, "for i=3,9 do while true do if i==5 then return i; else return i*10; end end end return 0;", "", "30")
	answers(t, "local a=1; return a;", "", "1")
}

// I2: NIf takes one of its blocks, or none; NWhile asks again ahead of each round.
func TestIfAndWhile(t *testing.T) {
	for _, no := range []string{"nil", "false", "{}[1]", "1==2", "not 1"} {
		answers(t, "if "+no+" then emit 1; end emit 2;", "2", "nil")
		answers(t, "if "+no+" then emit 1; else emit 3; end emit 2;", "3 2", "nil")
		answers(t, "while "+no+" do emit 1; end emit 2;", "2", "nil")
	}
	for _, yes := range []string{"true", "0", `""`, "{}", "main", "1<2"} {
		answers(t, "if "+yes+" then emit 1; end emit 2;", "1 2", "nil")
		answers(t, "if "+yes+" then emit 1; else emit 3; end emit 2;", "1 2", "nil")
		answers(t, "while "+yes+" do emit 1; return 2; end emit 2;", "1", "2")
	}
	answers(t, "if nil then if 1 then emit 1; else emit 2; end else if nil then emit 3; else emit 4; end end", "4", "nil")
	answers(t, "local a=0; while e(a<2) do emit a; a=a+1; end return a;", "true 0 true 1 false", "2")
	answers(t, "local a=0; while a<3 do local b=a*2; while b<a*3 do emit b; b=b+1; end a=a+1; end return a;", "2 4 5", "3")
	answers(t, "local a=1; while a do a=nil; end while a do emit 1; end", "", "nil")
}

// I2: NFor goes through all numbers from the first up to the last, which are reckoned once, also where these are the greatest and the least there are.
func TestFor(t *testing.T) {
	answers(t, "for i=2,4 do emit i; end", "2 3 4", "nil")
	answers(t, "for i=2,2 do emit i; end", "2", "nil")
	answers(t, "for i=3,2 do emit i; end", "", "nil")
	answers(t, "for i=-1,1 do end for i=-1,1 do emit i; end", "-1 0 1", "nil")
	answers(t, "local n=2; for i=1,n do n=n+1; emit n; end", "3 4", "nil")
	answers(t, "local n=2; for i=n,n+1 do n=i*10; emit n; end return n;", "20 30", "30")
	answers(t, "local i=2; for i=i,i+1 do emit i; if i then local i=i*5; emit i; i=0; end end return i;", "2 10 3 15", "2")
	answers(t, "for i=nil or 1,1 and 2 do emit i; end", "1 2", "nil")
	answers(t, "for i=9223372036854775806,9223372036854775807 do emit i; end return 1;", "9223372036854775806 9223372036854775807", "1")
	answers(t, "local m=-9223372036854775807-1; for i=m,m+1 do emit i; end for i=m,m do emit 1; end for i=9223372036854775807,m do emit 2; end", "-9223372036854775808 -9223372036854775807 1", "nil")
	for _, none := range []string{"nil", "true", "false", `"1"`, "{}", "main"} {
		fails(t, "for i="+none+",e(2) do emit 1; end", "2", api.ErrKind)
		fails(t, "for i=e(2),"+none+" do emit 1; end", "2", api.ErrKind)
		fails(t, "for i="+none+","+none+" do emit 1; end", "", api.ErrKind)
	}
	fails(t, `for i="b","a" do emit 1; end`, "", api.ErrKind)
}

// I2: what goes on without end goes on, and tells as much as the text does with each fuel.
func TestEndless(t *testing.T) {
	for _, stats := range []string{
		"while true do end", "while true do emit 1; end", "for i=1,9223372036854775807 do emit i; end", "for i=1,9223372036854775807 do end", "local a=1; while a do a=a+1; emit a; if a==7 then emit nil; end end",
		"while not nil do for i=1,3 do emit e(i); end end", "while 1 do while nil do end end",
	} {
		meansAtAll(t, tell(stats), 80)
		if shown := means(t, tell(stats), api.MaxSteps); shown.End != api.EndFuel {
			t.Errorf("%s: %+v", stats, shown)
		}
	}
}

func canBe(text string) bool {
	_, f := check.Check(text)
	return f.Code == api.OK
}

// seen counts how runs end.
type seen map[string]int

func (s seen) add(shown api.Shown) {
	s[[]string{"fuel", "done", "failed"}[shown.End]+" "+fmt.Sprint(int(shown.Err))]++
}

// wants asks that there were so many runs of each end.
func (s seen) wants(t *testing.T, least int, ends ...string) {
	t.Helper()
	for _, end := range ends {
		if s[end] < least {
			t.Errorf("%s: %d times of %v", end, s[end], s)
		}
	}
}

// I1, I2: all rows of a few pieces.
func TestAllShort(t *testing.T) {
	pieces := []string{"local a=b or a;", "b=a and b;", "b=a+1;", "a=f(b);", "t[a]=b;", "emit t[b];", "if a then ", "else ", "while b<3 do ", "for a=b,3 do ", "end ", "return b;", "end function f(a) local b=a; local t={}; "}
	ends := seen{}
	var extend func(text string, more int)
	extend = func(text string, more int) {
		if canBe(text + "end") {
			ends.add(means(t, text+"end", 400))
		} else {
			refuses(t, text+"end")
		}
		if more == 0 {
			return
		}
		for _, p := range pieces {
			extend(text+p, more-1)
		}
	}
	extend("function f(a) return a; end function main() local a=nil; local b=1; local t={}; ", 4)
	extend("function main() local a=2; local b=1; local t={}; t[1]=5; ", 4)
	ends.wants(t, 2, "done 0", "fuel 0", "failed 1", "failed 3")
}

// I1, I2: programs by a fixed rule.
func TestByRule(t *testing.T) {
	ends := seen{}
	for i := range 6000 {
		if text := sample.Program(i); canBe(text) {
			ends.add(means(t, text, api.MaxSteps))
		} else {
			refuses(t, text)
		}
	}
	ends.wants(t, 5, "done 0", "fuel 0", "failed 1", "failed 3", "failed 4", "failed 7")
}

// I2: the same with each fuel up to some.
func TestEachFuel(t *testing.T) {
	for i := range 300 {
		if text := sample.Program(i); canBe(text) {
			meansAtAll(t, text, 80)
		}
	}
}

// I1, I2: any text, any fuel of the model.
func FuzzMake(f *testing.F) {
	f.Add("function main()emit 6*7;return \"x\";end", 100)
	f.Add("function main()local t={};for i=1,3 do t[i]=i*i;end return t[3]+#t;end", 20)
	f.Add("function f(a,b)if a<b then return f(b,a);else return a..b and not a;end end function main()emit -f(1,2);end", 50)
	f.Add("function main()local k=next({},nil);while true do k={};main();end end", 1000)
	f.Fuzz(func(t *testing.T, text string, n int) {
		if !canBe(text) {
			refuses(t, text)
			return
		}
		means(t, text, min(max(n, 0), api.MaxSteps))
	})
}
