package syntax_test

import (
	"slices"
	"strconv"
	"strings"
	"testing"
	"unsafe"

	"packtrail/api"
	"packtrail/lex"
	"packtrail/syntax"
)

// kindNames has the kinds of nodes, in their order.
const kindNames = "? Unit Fun Param Block Local Set Do If While For Return Emit Int Text Nil True False Name New Index Call Op Not Neg Len Next"

// show tells all of a node: its kind, its text and number where there are any, its kids.
func show(n api.Node) string {
	names := strings.Fields(kindNames)
	s := "?" + strconv.Itoa(n.Kind)
	if n.Kind > 0 && n.Kind < len(names) {
		s = names[n.Kind]
	}
	if n.Text != "" {
		s += "'" + n.Text + "'"
	}
	if n.Num != 0 {
		s += "#" + strconv.FormatInt(n.Num, 10)
	}
	if len(n.Kids) == 0 {
		return s
	}
	kids := make([]string, len(n.Kids))
	for i, kid := range n.Kids {
		kids[i] = show(kid)
	}
	return s + "(" + strings.Join(kids, " ") + ")"
}

// reads asks for a text's node, and holds it against the one that is wanted.
func reads(t *testing.T, text, want string) api.Node {
	t.Helper()
	n, f := syntax.Parse(text)
	if got := show(n); got != want || f != (api.Fault{}) {
		t.Errorf("Parse(%q): %s, %v; want %s", text, got, f, want)
	}
	return n
}

// refuses asks for the node of a text that is wrong: there must be none (P2).
func refuses(t *testing.T, text string, code api.Errno, at int) {
	t.Helper()
	if n, f := syntax.Parse(text); show(n) != "?0" || f != (api.Fault{Code: code, At: at}) {
		t.Errorf("Parse(%q): %s, %v; want %v at %d", text, show(n), f, code, at)
	}
}

// readsStat does so for a stat, which stands in a function.
func readsStat(t *testing.T, text, want string) {
	t.Helper()
	reads(t, "function f() "+text+" end", "Unit(Fun'f'(Block("+want+")))")
}

// readsExpr does so for an expression.
func readsExpr(t *testing.T, text, want string) {
	t.Helper()
	readsStat(t, "return "+text+";", "Return("+want+")")
}

// head is what stands ahead of the stats in refusesStat.
const head = "function f() "

// refusesStat asks for stats that are wrong at a byte of theirs.
func refusesStat(t *testing.T, text string, at int) {
	t.Helper()
	refuses(t, head+text, api.ErrForm, len(head)+at)
}

// D1: programs and functions.
func TestFunctions(t *testing.T) {
	reads(t, "", "Unit")
	reads(t, " \n-- nothing", "Unit")
	reads(t, "function f() end", "Unit(Fun'f'(Block))")
	reads(t, "function f(a)end", "Unit(Fun'f'(Param'a' Block))")
	reads(t, "function f(a,b,a)end", "Unit(Fun'f'(Param'a' Param'b' Param'a' Block))")
	reads(t, "function f()end function f()end function g(x) return x; end", "Unit(Fun'f'(Block) Fun'f'(Block) Fun'g'(Param'x' Block(Return(Name'x'))))")
	reads(t, "function f(a)return(1+a)*-3;end", "Unit(Fun'f'(Param'a' Block(Return(Op#3(Op#1(Int#1 Name'a') Neg(Int#3))))))")
	reads(t, "function _(abcdefghijklmnop,A1)end", "Unit(Fun'_'(Param'abcdefghijklmnop' Param'A1' Block))")
}

// D1: stats, each kind.
func TestStats(t *testing.T) {
	readsStat(t, "local x = 1;", "Local'x'(Int#1)")
	readsStat(t, "x = 1;", "Set(Name'x' Int#1)")
	readsStat(t, "x[1] = 2;", "Set(Index(Name'x' Int#1) Int#2)")
	readsStat(t, "x[1][y] = z;", "Set(Index(Index(Name'x' Int#1) Name'y') Name'z')")
	readsStat(t, "x[f(1)] = f(2);", "Set(Index(Name'x' Call(Name'f' Int#1)) Call(Name'f' Int#2))")
	readsStat(t, "f();", "Do(Call(Name'f'))")
	readsStat(t, "f(1, x);", "Do(Call(Name'f' Int#1 Name'x'))")
	readsStat(t, "f[1]();", "Do(Call(Index(Name'f' Int#1)))")
	readsStat(t, "f()(2)[3](4);", "Do(Call(Index(Call(Call(Name'f') Int#2) Int#3) Int#4))")
	readsStat(t, "if a then end", "If(Name'a' Block)")
	readsStat(t, "if a then else end", "If(Name'a' Block Block)")
	readsStat(t, "if a then x=1; y=2; else emit 3; end", "If(Name'a' Block(Set(Name'x' Int#1) Set(Name'y' Int#2)) Block(Emit(Int#3)))")
	readsStat(t, "if a then if b then end else end", "If(Name'a' Block(If(Name'b' Block)) Block)")
	readsStat(t, "if a then else if b then end end", "If(Name'a' Block Block(If(Name'b' Block)))")
	readsStat(t, "while a do end", "While(Name'a' Block)")
	readsStat(t, "while a do f(); end", "While(Name'a' Block(Do(Call(Name'f'))))")
	readsStat(t, "for i = 1, 2 do end", "For'i'(Int#1 Int#2 Block)")
	readsStat(t, "for i = a+1, #b do emit i; end", "For'i'(Op#1(Name'a' Int#1) Len(Name'b') Block(Emit(Name'i')))")
	readsStat(t, "return 1;", "Return(Int#1)")
	readsStat(t, "emit 1;", "Emit(Int#1)")
	readsStat(t, "return 1; emit 2; return 3;", "Return(Int#1) Emit(Int#2) Return(Int#3)")
}

// D2: what expressions are made of, and what may stand behind each.
func TestSimple(t *testing.T) {
	for text, want := range map[string]string{
		"0": "Int", "7": "Int#7", "9223372036854775807": "Int#9223372036854775807",
		`""`: "Text", `"a b"`: "Text'a b'", `"nil"`: "Text'nil'", `"("`: "Text'('", `"or"`: "Text'or'", `"-"`: "Text'-'", `";"`: "Text';'",
		"nil": "Nil", "true": "True", "false": "False", "x": "Name'x'", "Nil": "Name'Nil'", "nil_": "Name'nil_'",
		"{}": "New", "{ --\n}": "New", "next(a,1)": "Next(Name'a' Int#1)", "(x)": "Name'x'", "((((1))))": "Int#1", "(a+b)": "Op#1(Name'a' Name'b')",
	} {
		readsExpr(t, text, want)
		readsExpr(t, text+"[1]", "Index("+want+" Int#1)")
		readsExpr(t, text+"[1][2]", "Index(Index("+want+" Int#1) Int#2)")
		readsExpr(t, text+"()", "Call("+want+")")
		readsExpr(t, text+"(1,2)(3)", "Call(Call("+want+" Int#1 Int#2) Int#3)")
		readsExpr(t, text+"()[1]", "Index(Call("+want+") Int#1)")
		readsExpr(t, "-"+text, "Neg("+want+")")
		readsExpr(t, "("+text+")", want)
		readsExpr(t, text+" or "+text, "Op#21("+want+" "+want+")")
	}
	readsExpr(t, "next(a or b, c and d)", "Next(Op#21(Name'a' Name'b') Op#20(Name'c' Name'd'))")
	readsExpr(t, "a[b or c]", "Index(Name'a' Op#21(Name'b' Name'c'))")
}

// D2: - not # stand ahead of one another; what stands behind an expression binds more.
func TestAhead(t *testing.T) {
	readsExpr(t, "- - x", "Neg(Neg(Name'x'))")
	readsExpr(t, "not not x", "Not(Not(Name'x'))")
	readsExpr(t, "##x", "Len(Len(Name'x'))")
	readsExpr(t, "-not#x", "Neg(Not(Len(Name'x')))")
	readsExpr(t, "#x[1]", "Len(Index(Name'x' Int#1))")
	readsExpr(t, "(#x)[1]", "Index(Len(Name'x') Int#1)")
	readsExpr(t, "not f(1)", "Not(Call(Name'f' Int#1))")
	readsExpr(t, "(not f)(1)", "Call(Not(Name'f') Int#1)")
	readsExpr(t, "-9223372036854775807", "Neg(Int#9223372036854775807)")
	readsExpr(t, "not(a)[1]", "Not(Index(Name'a' Int#1))")
}

// level is operators that bind the same, and their numbers.
type level struct {
	words []string
	nums  []int64
	row   bool
}

// levels has them, from those that bind least on, as D2 names them.
func levels() []level {
	return []level{
		{[]string{"or"}, []int64{api.OpOr}, true},
		{[]string{"and"}, []int64{api.OpAnd}, true},
		{[]string{"==", "<", "<="}, []int64{api.OpSame, api.OpLess, api.OpMost}, false},
		{[]string{".."}, []int64{api.OpCat}, true},
		{[]string{"+", "-"}, []int64{api.OpAdd, api.OpSub}, true},
		{[]string{"*", "/", "%"}, []int64{api.OpMul, api.OpDiv, api.OpMod}, true},
	}
}

func op(num int64, a, b string) string {
	return "Op#" + strconv.FormatInt(num, 10) + "(" + a + " " + b + ")"
}

// D2: each two operators: the one that binds more goes first, of a row the one ahead; two of == < <= make none.
func TestBinds(t *testing.T) {
	a, b, c := "Name'a'", "Name'b'", "Name'c'"
	for i, first := range levels() {
		for k, x := range first.words {
			n := first.nums[k]
			readsExpr(t, "a "+x+" b", op(n, a, b))
			for _, sign := range []string{"-", "not ", "#"} {
				kind := map[string]string{"-": "Neg", "not ": "Not", "#": "Len"}[sign]
				readsExpr(t, sign+"a "+x+" "+sign+"b", op(n, kind+"("+a+")", kind+"("+b+")"))
				readsExpr(t, sign+"(a "+x+" b)", kind+"("+op(n, a, b)+")")
			}
			for j, second := range levels() {
				for l, y := range second.words {
					m := second.nums[l]
					readsExpr(t, "(a "+x+" b) "+y+" c", op(m, op(n, a, b), c))
					readsExpr(t, "a "+x+" (b "+y+" c)", op(n, a, op(m, b, c)))
					switch text := "a " + x + " b " + y + " c"; {
					case i < j:
						readsExpr(t, text, op(n, a, op(m, b, c)))
					case i > j || first.row:
						readsExpr(t, text, op(m, op(n, a, b), c))
					default:
						refusesStat(t, "return "+text+"; end", len("return a "+x+" b "))
					}
				}
			}
		}
	}
	readsExpr(t, "a==b and c<d or e<=f", op(21, op(20, op(7, a, b), op(8, c, "Name'd'")), op(9, "Name'e'", "Name'f'")))
	readsExpr(t, "a-b-c-a", op(2, op(2, op(2, a, b), c), a))
}

// D1: the words that are no names, wherever a NAME is asked for.
func TestReserved(t *testing.T) {
	words := strings.Fields("and do else emit end false for function if local next nil not or return then true while")
	for _, w := range words {
		refuses(t, "function "+w+"() end", api.ErrForm, 9)
		refuses(t, "function f("+w+") end", api.ErrForm, 11)
		refuses(t, "function f(a,"+w+") end", api.ErrForm, 13)
		refusesStat(t, "local "+w+" = 1; end", 6)
		refusesStat(t, "for "+w+" = 1, 2 do end end", 4)
		readsStat(t, "x"+w+" = 1;", "Set(Name'x"+w+"' Int#1)")
		readsStat(t, strings.ToUpper(w)+" = 1;", "Set(Name'"+strings.ToUpper(w)+"' Int#1)")
		if !slices.Contains([]string{"end", "else", "emit", "for", "if", "local", "return", "while"}, w) {
			refusesStat(t, w+" = 1; end", 0)
		}
		if !slices.Contains([]string{"nil", "true", "false", "not", "next"}, w) {
			refusesStat(t, "return "+w+"; end", 7)
		}
	}
	for _, w := range []string{"break", "elseif", "in", "repeat", "until", "goto", "main", "print"} {
		readsStat(t, "local "+w+" = "+w+";", "Local'"+w+"'(Name'"+w+"')")
	}
}

// D3: Scan's fault is told first, wherever it is, and whatever else is wrong.
func TestScanFault(t *testing.T) {
	refuses(t, "function f( . ", api.ErrForm, 12)
	refuses(t, ") 07", api.ErrForm, 2)
	refuses(t, "end 9223372036854775808", api.ErrRange, 4)
	refuses(t, "= abcdefghijklmnopq", api.ErrSize, 2)
	refuses(t, `; "`+strings.Repeat("a", api.MaxLong+1)+`"`, api.ErrSize, 2)
	refuses(t, strings.Repeat(" ", api.MaxText+1), api.ErrSize, 0)
	refuses(t, "x"+strings.Repeat(" ", api.MaxText), api.ErrSize, 0)
	refuses(t, strings.Repeat(" ", api.MaxText-1)+"x", api.ErrForm, api.MaxText-1)
}

// D3: the first token with which no program begins; a KText is no word and no sign.
func TestStray(t *testing.T) {
	refuses(t, "x", api.ErrForm, 0)
	refuses(t, "  ;", api.ErrForm, 2)
	refuses(t, "function f() end end", api.ErrForm, 17)
	refuses(t, "function f() end return 1;", api.ErrForm, 17)
	refuses(t, "function(a) end", api.ErrForm, 8)
	refuses(t, "function f a", api.ErrForm, 11)
	refuses(t, "function f(,)end", api.ErrForm, 11)
	refuses(t, "function f(a,)end", api.ErrForm, 13)
	refuses(t, "function f(a b)end", api.ErrForm, 13)
	refuses(t, "function f(a;b)end", api.ErrForm, 12)
	refuses(t, "function f(1)end", api.ErrForm, 11)
	refuses(t, `function "f"()end`, api.ErrForm, 9)
	refuses(t, `"function" f()end`, api.ErrForm, 0)
	refuses(t, `function f "(" )end`, api.ErrForm, 11)
	for text, at := range map[string]int{
		"else end": 0, "; end": 0, "x; end": 1, "x[1]; end": 4, "x y": 2, "x.y": -1, "1 = 2;": 0, "(x) = 1;": 0, "(f)();": 0, `"f"();`: 0, "{}[1] = 2;": 0, "next(a,b);": 0, "nil = 1;": 0, "not x;": 0,
		"f() = 1; end": 4, "a(1)=2; end": 4, "f()[1] = 2; end": 7, "f()[1]; end": 6, "f[1]() = 2;": 7, "x == 1;": 2, "x = ;": 4, "x = 1 end": 6, "x = 1, y = 2;": 5, "x, y = 1;": 1,
		"local x; end": 7, "local x[1] = 2;": 7, "local = 1;": 6, "local 1": 6, "local x = local": 10, "local f() = 1;": 7,
		"if then end": 3, "if a do": 5, "if a then end;": 13, "if a then else else": 15, "if (a then": 6, "if a = b": 5,
		"while do end": 6, "while a then": 8, "while a do else": 11,
		"for i = 1 do": 10, "for i = 1, do": 11, "for i = 1, 2, 3 do": 12, "for i, j": 5, "for i[1] = ": 5, "for i = 1, 2 then": 13, "for i == 1": 6, "for i in": 6,
		"return; end": 6, "return 1, 2;": 8, "return 1 end": 9, "return end": 7, "emit ; end": 5, "emit 1 2": 7, "function g()": 0,
		"return (1;": 9, "return ();": 8, "return {1};": 8, "return {;": 8, "return {}}": 9, "return [1];": 7, "return x[];": 9, "return x[1,2];": 10, "return x[1);": 10, "return f(1,);": 11, "return f(,1);": 9, "return f(1 2);": 11, "return f(1];": 10,
		"return next;": 11, "return next a": 12, "return next();": 12, "return next(a);": 13, "return next(a,);": 14, "return next(a,b,c);": 15, "return next[1]": 11,
		"return + 1;": 7, "return 1 + ;": 11, "return 1 + * 2;": 11, "return 1 not 2": 9, "return 1 # 2": 9, "return a == b == c;": 14, "return a < b < c;": 13, "return a <= b == c;": 14, "return a = b;": 9, "return and;": 7, "return a b": 9, "return 1 1": 9,
		`return "a" "b";`: 11, `return 1 "+" 2;`: 9, `return "(" 1 ")";`: 11, `return f "(" 1 ")";`: 9, `x "=" 1;`: 2, `x = 1 ";" end`: 6, `return "-" 1;`: 11, `return a "or" b;`: 9, `return "x;"`: -2,
	} {
		switch at {
		case -1:
			refusesStat(t, text, 1)
		case -2:
			refusesStat(t, text, len(text))
		default:
			refusesStat(t, text, at)
		}
	}
}

// D3: each beginning of a program is told at the text's length, blanks and notes at the end too.
func TestEnded(t *testing.T) {
	text := `function f(a, b) local x = {}; x[1] = - a; f(x)(1, "t")[2](); if a == b then emit #x; else x = nil; end while not a do end for i = 1, (2) do return next(x, i); end end`
	tokens, _ := lex.Scan(text)
	reads(t, text, "Unit(Fun'f'(Param'a' Param'b' Block(Local'x'(New) Set(Index(Name'x' Int#1) Neg(Name'a')) Do(Call(Index(Call(Call(Name'f' Name'x') Int#1 Text't') Int#2))) If(Op#7(Name'a' Name'b') Block(Emit(Len(Name'x'))) Block(Set(Name'x' Nil))) While(Not(Name'a') Block) For'i'(Int#1 Int#2 Block(Return(Next(Name'x' Name'i')))))))")
	for _, x := range tokens[1:] {
		start := text[:x.At]
		for _, gap := range []string{"", " ", "\n", "--note", "--\n --\n\n"} {
			refuses(t, start+gap, api.ErrForm, len(start+gap))
			refuses(t, start+gap+"\n function", api.ErrForm, len(start+gap)+2)
		}
	}
}

// isRead asks for the node of a text that is right.
func isRead(t *testing.T, text string) api.Node {
	t.Helper()
	n, f := syntax.Parse(text)
	if f != (api.Fault{}) || n.Kind != api.NUnit {
		t.Errorf("Parse(%q): %v", text, f)
	}
	return n
}

// D3: as deep as MaxDepth may be, deeper may not; parentheses count for nothing.
func TestDepth(t *testing.T) {
	for _, x := range []struct {
		ahead, opens, middle, closes, behind string
		most                                 int
	}{
		// The program, the function, its block, a stat and what stands in it are 5 deep.
		{"return ", "- ", "x", "", ";", api.MaxDepth - 5},
		{"return ", "not(", "1", ")", ";", api.MaxDepth - 5},
		{"return ", "1+(", "nil", ")", ";", api.MaxDepth - 5},
		{"return ", "", "1", "+1", ";", api.MaxDepth - 5},
		{"return ", "x[", "x", "]", ";", api.MaxDepth - 5},
		{"return ", "", "x", "[1]", ";", api.MaxDepth - 5},
		{"return ", "next(1,", "{}", ")", ";", api.MaxDepth - 5},
		{"local x = ", "#", "x", "", ";", api.MaxDepth - 5},
		{"x[1] = ", "f(", "1", ")", ";", api.MaxDepth - 5},
		{"x", "", "", "[1]", " = 1;", api.MaxDepth - 5},
		{"f", "", "", "()", "();", api.MaxDepth - 6},
		{"f(1, ", "#", "x", "", ");", api.MaxDepth - 6},
		{"if ", "#", "x", "", " then else end", api.MaxDepth - 5},
		{"", "while x do ", "", " end", "", (api.MaxDepth - 3) / 2},
		{"", "while x do ", "x = 1;", " end", "", (api.MaxDepth - 5) / 2},
		{"", "if x then else ", "f();", " end", "", (api.MaxDepth - 6) / 2},
		{"", "if x then ", "emit x;", " else end", "", (api.MaxDepth - 5) / 2},
		{"", "for i = 1, 2 do ", "return 1;", " end", "", (api.MaxDepth - 5) / 2},
	} {
		for n := range 40 {
			text := head + x.ahead + strings.Repeat(x.opens, n) + x.middle + strings.Repeat(x.closes, n) + x.behind + " end"
			if n <= x.most {
				isRead(t, text)
			} else {
				refuses(t, text, api.ErrSize, 0)
			}
			refuses(t, text+" end", api.ErrForm, len(text)+1)
		}
	}
}

// D3, P1: what nests as far as a text goes.
func TestNested(t *testing.T) {
	start := head + "return "
	isRead(t, start+strings.Repeat("(", 1900)+"1"+strings.Repeat(")", 1900)+"; end")
	refuses(t, start+strings.Repeat("(", 1900)+"1"+strings.Repeat(")", 1901)+"; end", api.ErrForm, len(start)+1900+1+1900)
	for _, s := range []string{"(", "- ", "not ", "x[", "f(", "next(", "1+", "1==(", "a or b and "} {
		many := strings.Repeat(s, 3900/len(s))
		refuses(t, start+many, api.ErrForm, len(start+many))
		refuses(t, start+many+";", api.ErrForm, len(start+many))
		refuses(t, many, api.ErrForm, 0)
	}
	for _, s := range []string{"x=1; ", "if x then ", "while f() do ", "for i=1,2 do ", "if x then else "} {
		many := strings.Repeat(s, 3900/len(s))
		refuses(t, head+many, api.ErrForm, len(head+many))
		refuses(t, head+many+"]", api.ErrForm, len(head+many))
	}
}

// D3: as many nodes as MaxNodes may be, more may not.
func TestNodes(t *testing.T) {
	for stats, ok := range map[int]bool{1: true, 298: true, 299: false, 400: false} {
		// The program, the function, its block, and two nodes a stat.
		text := "function f()" + strings.Repeat("emit 1;", stats) + "end"
		if ok {
			isRead(t, text)
			continue
		}
		refuses(t, text, api.ErrSize, 0)
	}
	isRead(t, "function f(a)"+strings.Repeat("emit 1;", 298)+"end")
	refuses(t, "function f(a,a)"+strings.Repeat("emit 1;", 298)+"end", api.ErrSize, 0)
	refuses(t, "function f(a,a)"+strings.Repeat("emit 1;", 298)+"and", api.ErrForm, 15+298*7)
	refuses(t, "function f(a,a)"+strings.Repeat("emit 1;", 298), api.ErrForm, 15+298*7)
}

// overlaps tells whether two texts have memory in common.
func overlaps(a, b string) bool {
	if a == "" || b == "" {
		return false
	}
	at, from := uintptr(unsafe.Pointer(unsafe.StringData(a))), uintptr(unsafe.Pointer(unsafe.StringData(b)))
	return at < from+uintptr(len(b)) && from < at+uintptr(len(a))
}

// every goes over a node and all below it.
func every(n *api.Node, do func(n *api.Node)) {
	do(n)
	for i := range n.Kids {
		every(&n.Kids[i], do)
	}
}

// P3: what is answered is new memory, and no two lists of it share any.
func TestNewMemory(t *testing.T) {
	text := strings.Clone(`function name(param) local var = "text"; name(var, 1, {})[2](3); x[1][2] = next(a, b); if a then b(); else c(); end for i = 1, 2 do end end function g(x) end`)
	n, again := isRead(t, text), isRead(t, text)
	want := show(n)
	every(&n, func(n *api.Node) {
		if overlaps(n.Text, text) {
			t.Errorf("%v keeps a piece of what was handed in", n)
		}
		long := n.Kids[:cap(n.Kids)]
		for i := len(n.Kids); i < len(long); i++ {
			long[i] = api.Node{Kind: -1}
		}
	})
	if show(n) != want {
		t.Errorf("%s, want %s: two lists share memory", show(n), want)
	}
	seen := map[*api.Node]bool{}
	mark := func(n *api.Node) {
		for i := range n.Kids {
			if seen[&n.Kids[i]] {
				t.Errorf("%v stands in two lists", n.Kids[i])
			}
			seen[&n.Kids[i]] = true
		}
	}
	every(&n, mark)
	every(&again, mark)
}
