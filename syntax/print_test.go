package syntax_test

import (
	"math"
	"slices"
	"strconv"
	"strings"
	"testing"

	"packtrail/api"
	"packtrail/lex"
	"packtrail/syntax"
)

func node(kind int, kids ...api.Node) api.Node { return api.Node{Kind: kind, Kids: kids} }

func named(kind int, text string, kids ...api.Node) api.Node {
	return api.Node{Kind: kind, Text: text, Kids: kids}
}

func number(n int64) api.Node { return api.Node{Kind: api.NInt, Num: n} }

func name(s string) api.Node { return named(api.NName, s) }

func operation(num int64, a, b api.Node) api.Node {
	return api.Node{Kind: api.NOp, Num: num, Kids: []api.Node{a, b}}
}

// around is the program that has such stats, and nothing else.
func around(stats ...api.Node) api.Node {
	return node(api.NUnit, named(api.NFun, "f", node(api.NBlock, stats...)))
}

// returning is the program that has such an expression.
func returning(n api.Node) api.Node { return around(node(api.NReturn, n)) }

// same tells whether two nodes are.
func same(a, b api.Node) bool {
	return a.Kind == b.Kind && a.Text == b.Text && a.Num == b.Num && slices.EqualFunc(a.Kids, b.Kids, same)
}

// prints asks for a node's text, and holds it against the one that is wanted; it must be read as the same node.
func prints(t *testing.T, n api.Node, want string) {
	t.Helper()
	if got, e := syntax.Print(n); got != want || e != api.OK {
		t.Errorf("Print(%s): %q, %v; want %q", show(n), got, e, want)
	}
	if back, f := syntax.Parse(want); !same(back, n) || f != (api.Fault{}) {
		t.Errorf("Parse(%q): %s, %v; want %s", want, show(back), f, show(n))
	}
}

// printsNone asks for the text of a node that has none (P2).
func printsNone(t *testing.T, n api.Node, code api.Errno) {
	t.Helper()
	if got, e := syntax.Print(n); got != "" || e != code {
		t.Errorf("Print: %q, %v; want %v", got, e, code)
	}
}

// D4, D5: a text, and what becomes of it when it is read and printed.
func TestPrint(t *testing.T) {
	for text, want := range map[string]string{
		"":                                   "",
		"-- note":                            "",
		"function f(a)return(1+a)*-3;end":    "function f ( a ) return ( 1 + a ) * - 3 ; end",
		"function f()end function g(a,b)end": "function f ( ) end function g ( a , b ) end",
		"function f()local t={};t[1]=\"a  b\";t[1][2]=nil;end":                                      `function f ( ) local t = { } ; t [ 1 ] = "a  b" ; t [ 1 ] [ 2 ] = nil ; end`,
		"function f()f();f(1,x)[2]();x=f();end":                                                     "function f ( ) f ( ) ; f ( 1 , x ) [ 2 ] ( ) ; x = f ( ) ; end",
		"function f()if a then end if a then else end end":                                          "function f ( ) if a then end if a then else end end",
		"function f()while true do x=1;end for i=1,(2)do emit i;end end":                            "function f ( ) while true do x = 1 ; end for i = 1 , 2 do emit i ; end end",
		"function f()return((next((a),(b))));end":                                                   "function f ( ) return next ( a , b ) ; end",
		"function f()x[(1)]=(f)((1),(2));end":                                                       "function f ( ) x [ 1 ] = f ( 1 , 2 ) ; end",
		"function f()return- -(-1);return not(not(false));return#(#x);end":                          "function f ( ) return - - - 1 ; return not not false ; return # # x ; end",
		"function f()return(-a)[1];return-(a[1]);return(a+b)(1);end":                                "function f ( ) return ( - a ) [ 1 ] ; return - a [ 1 ] ; return ( a + b ) ( 1 ) ; end",
		`function f()return(1)[2];return("")();return(nil)[{}];return({})(next(a,b)());end`:         `function f ( ) return 1 [ 2 ] ; return "" ( ) ; return nil [ { } ] ; return { } ( next ( a , b ) ( ) ) ; end`,
		"function f()return(a==b)==(c==d);return(a..b)==(c..d);return(a and b)<c;end":               "function f ( ) return ( a == b ) == ( c == d ) ; return a .. b == c .. d ; return ( a and b ) < c ; end",
		"function f()return(a or b)or c;return a or(b or c);return(a-b)-c;return a-(b-c);end":       "function f ( ) return a or b or c ; return a or ( b or c ) ; return a - b - c ; return a - ( b - c ) ; end",
		"function f()return not(a==b);return(not a)==b;return a*(-b);return(-a)*b;return-(a*b);end": "function f ( ) return not ( a == b ) ; return not a == b ; return a * - b ; return - a * b ; return - ( a * b ) ; end",
	} {
		n, f := syntax.Parse(text)
		if f != (api.Fault{}) {
			t.Errorf("Parse(%q): %v", text, f)
		}
		prints(t, n, want)
	}
	prints(t, node(api.NUnit), "")
	prints(t, api.Node{Kind: api.NUnit, Kids: []api.Node{}}, "")
	prints(t, returning(number(math.MaxInt64)), "function f ( ) return 9223372036854775807 ; end")
	prints(t, returning(named(api.NText, "")), `function f ( ) return "" ; end`)
	prints(t, returning(named(api.NText, `end -- \n 'x' ;`)), `function f ( ) return "end -- \n 'x' ;" ; end`)
}

// pairs has the places of parentheses that belong together in a row of tokens.
func pairs(words []string) [][2]int {
	var out [][2]int
	var open []int
	for i, w := range words {
		switch w {
		case "(":
			open = append(open, i)
		case ")":
			out = append(out, [2]int{open[len(open)-1], i})
			open = open[:len(open)-1]
		}
	}
	return out
}

// isBest asks for a node's text, which must be read as the same node, and without any of its pairs of parentheses must not be.
func isBest(t *testing.T, n api.Node) {
	t.Helper()
	text, e := syntax.Print(n)
	back, f := syntax.Parse(text)
	if e != api.OK || f != (api.Fault{}) || !same(back, n) {
		t.Fatalf("%s is printed %q, %v, and read %s, %v", show(n), text, e, show(back), f)
	}
	tokens, _ := lex.Scan(text)
	words := make([]string, len(tokens))
	for i, x := range tokens {
		words[i] = x.Text
		if x.Kind == api.KText {
			words[i] = `"` + x.Text + `"`
		}
	}
	if text != strings.Join(words, " ") {
		t.Fatalf("%q has another thing than one blank between two tokens", text)
	}
	for _, p := range pairs(words) {
		less := strings.Join(slices.Concat(words[:p[0]], words[p[0]+1:p[1]], words[p[1]+1:]), " ")
		if back, f := syntax.Parse(less); f == (api.Fault{}) && same(back, n) {
			t.Fatalf("%s is printed %q, and read the same from %q", show(n), text, less)
		}
	}
}

// grown has expressions made of others: each kind, each operator, with each of them at each place.
func grown(of []api.Node) []api.Node {
	a := name("a")
	var out []api.Node
	for _, x := range of {
		for _, kind := range []int{api.NNot, api.NNeg, api.NLen} {
			out = append(out, node(kind, x))
		}
		for _, kind := range []int{api.NIndex, api.NNext, api.NCall} {
			out = append(out, node(kind, x, a), node(kind, a, x))
		}
		out = append(out, node(api.NCall, x), node(api.NCall, a, a, x), node(api.NCall, a, x, a))
		for _, l := range levels() {
			for _, num := range l.nums {
				out = append(out, operation(num, x, a), operation(num, a, x))
			}
		}
	}
	return out
}

// D4, D5: all expressions that are up to three made of one another: parentheses are just where they are needed.
func TestParentheses(t *testing.T) {
	of := []api.Node{name("a"), number(0), named(api.NText, "("), node(api.NNil), node(api.NTrue), node(api.NFalse), node(api.NNew)}
	for _, x := range grown(of) {
		isBest(t, returning(x))
	}
	of = of[:1]
	for range 3 {
		for _, x := range of {
			isBest(t, returning(x))
			isBest(t, around(node(api.NSet, node(api.NIndex, name("a"), x), x)))
		}
		of = grown(of)
	}
	var both []api.Node
	some := grown([]api.Node{name("a")})
	for _, x := range some {
		for _, y := range some {
			both = append(both, node(api.NIndex, x, y), node(api.NCall, x, y), node(api.NNext, x, y), operation(api.OpSame, x, y), operation(api.OpSub, x, y), operation(api.OpOr, x, y))
		}
	}
	for _, x := range both {
		isBest(t, returning(x))
	}
}

// loosely puts down a node's tokens, with parentheses around all that may have them; it does not ask whether the node is any good.
func loosely(n api.Node) string {
	kid := func(i int) string {
		if i >= len(n.Kids) {
			return "?"
		}
		return loosely(n.Kids[i])
	}
	expr := func(i int) string {
		if i < len(n.Kids) && slices.Contains([]int{api.NOp, api.NNot, api.NNeg, api.NLen}, n.Kids[i].Kind) {
			return "(" + kid(i) + ")"
		}
		return kid(i)
	}
	row := func(from, to int, gap string) string {
		var kids []string
		for i := from; i < to; i++ {
			kids = append(kids, kid(i))
		}
		return strings.Join(kids, gap)
	}
	k := len(n.Kids)
	switch n.Kind {
	case api.NUnit, api.NBlock:
		return row(0, k, " ")
	case api.NFun:
		return "function " + n.Text + "(" + row(0, k-1, ",") + ")" + kid(max(0, k-1)) + " end"
	case api.NParam, api.NName:
		return n.Text
	case api.NLocal:
		return "local " + n.Text + "=" + kid(0) + ";"
	case api.NSet:
		return kid(0) + "=" + kid(1) + ";"
	case api.NDo:
		return kid(0) + ";"
	case api.NIf:
		if k == 3 {
			return "if " + kid(0) + " then " + kid(1) + " else " + kid(2) + " end"
		}
		return "if " + kid(0) + " then " + kid(1) + " end"
	case api.NWhile:
		return "while " + kid(0) + " do " + kid(1) + " end"
	case api.NFor:
		return "for " + n.Text + "=" + kid(0) + "," + kid(1) + " do " + kid(2) + " end"
	case api.NReturn:
		return "return " + kid(0) + ";"
	case api.NEmit:
		return "emit " + kid(0) + ";"
	case api.NInt:
		return strconv.FormatInt(n.Num, 10)
	case api.NText:
		return `"` + n.Text + `"`
	case api.NNil:
		return "nil"
	case api.NTrue:
		return "true"
	case api.NFalse:
		return "false"
	case api.NNew:
		return "{}"
	case api.NIndex:
		return expr(0) + "[" + kid(1) + "]"
	case api.NCall:
		return expr(0) + "(" + row(1, k, ",") + ")"
	case api.NOp:
		for _, l := range levels() {
			if i := slices.Index(l.nums, n.Num); i >= 0 {
				return expr(0) + " " + l.words[i] + " " + expr(1)
			}
		}
	case api.NNot:
		return "not " + expr(0)
	case api.NNeg:
		return "- " + expr(0)
	case api.NLen:
		return "#" + expr(0)
	case api.NNext:
		return "next(" + kid(0) + "," + kid(1) + ")"
	}
	return "?"
}

// isJudged holds what Print answers against what D4 says of a node that is not too long.
func isJudged(t *testing.T, n api.Node) {
	t.Helper()
	want := api.OK
	if back, f := syntax.Parse(loosely(n)); f != (api.Fault{}) || !same(back, n) {
		want = api.ErrForm
	}
	if deep, nodes := size(n); deep > api.MaxDepth || nodes > api.MaxNodes {
		want = api.ErrSize
	}
	text, e := syntax.Print(n)
	if e != want || e != api.OK && text != "" {
		t.Fatalf("Print(%s): %q, %v; want %v", show(n), text, e, want)
	}
	if e == api.OK {
		isBest(t, n)
	}
}

// clone is the same node in memory of its own.
func clone(n api.Node) api.Node {
	kids := make([]api.Node, len(n.Kids))
	for i, kid := range n.Kids {
		kids[i] = clone(kid)
	}
	n.Kids = kids
	return n
}

// changes are what a node may become by one change.
func changes(n api.Node) []api.Node {
	var out []api.Node
	for kind := -1; kind <= api.NNext+1; kind++ {
		m := n
		m.Kind = kind
		out = append(out, m)
	}
	for _, text := range []string{"", "x", "while", "While", "a b", "a ", " a", "1", "a-b", `a"b`, `"`, "--", "a--", "\n", "\x00", "\x7f", "é", "abcdefghijklmnop", "abcdefghijklmnopq", strings.Repeat("~", api.MaxLong), strings.Repeat("~", api.MaxLong+1)} {
		m := n
		m.Text = text
		out = append(out, m)
	}
	for _, num := range []int64{0, 1, 2, 3, 4, 5, 6, 7, 8, 9, 10, 11, 12, 19, 20, 21, 22, -1, math.MaxInt64, math.MinInt64, 1<<32 + 1} {
		m := n
		m.Num = num
		out = append(out, m)
	}
	others := []api.Node{{}, name("x"), number(1), node(api.NBlock), named(api.NParam, "x"), node(api.NCall, name("x")), node(api.NIndex, name("x"), number(1)), node(api.NIndex, node(api.NCall, name("x")), number(1)), node(api.NEmit, name("x")), named(api.NFun, "x", node(api.NBlock)), node(api.NUnit), node(api.NCall), node(api.NNeg)}
	for _, other := range others {
		m := n
		m.Kids = append(slices.Clone(n.Kids), other)
		out = append(out, m, other)
		for i := range n.Kids {
			m.Kids = slices.Clone(n.Kids)
			m.Kids[i] = other
			out = append(out, m)
		}
	}
	for i := range n.Kids {
		m := n
		m.Kids = slices.Delete(slices.Clone(n.Kids), i, i+1)
		out = append(out, m)
		m.Kids = slices.Clone(n.Kids)
		slices.Reverse(m.Kids)
		out = append(out, m)
	}
	m := n
	m.Kids = nil
	return append(out, m)
}

// D4: a program's node, of which one node is changed, is either a program's again or refused.
func TestOneNodeWrong(t *testing.T) {
	n, _ := syntax.Parse(program)
	isJudged(t, n)
	n = clone(n)
	every(&n, func(part *api.Node) {
		was := *part
		for _, other := range changes(was) {
			*part = other
			isJudged(t, n)
		}
		*part = was
	})
}

// D4: what is no program's node: other things than programs, and fields that Parse leaves zero.
func TestNoProgram(t *testing.T) {
	one := number(1)
	for _, n := range []api.Node{
		{}, {Kind: -1}, {Kind: api.NNext + 1}, {Kind: math.MaxInt}, {Kind: math.MinInt},
		one, name("x"), node(api.NBlock), named(api.NFun, "f", node(api.NBlock)), {Kind: api.NUnit, Text: "x"}, {Kind: api.NUnit, Num: 1},
		node(api.NUnit, node(api.NUnit)), node(api.NUnit, node(api.NBlock)), node(api.NUnit, one), node(api.NUnit, named(api.NFun, "f")), node(api.NUnit, named(api.NFun, "", node(api.NBlock))), node(api.NUnit, named(api.NFun, "if", node(api.NBlock))),
		node(api.NUnit, named(api.NFun, "f", node(api.NBlock), named(api.NParam, "a"))), node(api.NUnit, named(api.NFun, "f", named(api.NParam, "a"))), node(api.NUnit, named(api.NFun, "f", named(api.NParam, "a", one), node(api.NBlock))), node(api.NUnit, named(api.NFun, "f", name("a"), node(api.NBlock))),
		around(one), around(node(api.NBlock)), around(node(api.NCall, name("f"))), around(node(api.NDo, name("f"))), around(node(api.NDo, node(api.NIndex, name("f"), one))), around(node(api.NDo, node(api.NCall, one))), around(node(api.NDo, node(api.NCall, node(api.NNext, one, one)))), around(node(api.NDo, node(api.NCall, node(api.NNeg, name("f"))))),
		around(node(api.NSet, one, one)), around(node(api.NSet, node(api.NCall, name("f")), one)), around(node(api.NSet, node(api.NIndex, node(api.NCall, name("f")), one), one)), around(node(api.NSet, node(api.NIndex, node(api.NNew), one), one)), around(node(api.NSet, name("x"))), around(node(api.NSet, name("x"), one, one)),
		around(node(api.NIf, one)), around(node(api.NIf, one, node(api.NBlock), node(api.NBlock), node(api.NBlock))), around(node(api.NIf, one, one)), around(node(api.NWhile, one)), around(node(api.NWhile, one, node(api.NBlock), node(api.NBlock))), around(named(api.NFor, "i", one, node(api.NBlock))), around(node(api.NFor, one, one, node(api.NBlock))),
		around(node(api.NReturn)), around(node(api.NReturn, one, one)), around(node(api.NEmit)), around(named(api.NEmit, "x", one)), around(named(api.NLocal, "x")), around(named(api.NLocal, "x", one, one)), around(node(api.NLocal, one)),
		returning(number(-1)), returning(number(math.MinInt64)), returning(node(api.NInt, one)), returning(named(api.NInt, "1")), returning(named(api.NText, "\n")), returning(named(api.NText, `"`)), returning(named(api.NText, `" .. "`)), returning(named(api.NText, strings.Repeat("a", api.MaxLong+1))), returning(named(api.NText, strings.Repeat("a", api.MaxText))),
		returning(name("")), returning(name("nil")), returning(name("1")), returning(name("a b")), returning(name("a.b")), returning(name("abcdefghijklmnopq")), returning(name("--")), returning(name("a ")), returning(api.Node{Kind: api.NName, Text: "a", Num: 1}),
		returning(node(api.NNil, one)), returning(named(api.NTrue, "true")), returning(node(api.NNew, one)), returning(node(api.NIndex, one)), returning(node(api.NIndex, one, one, one)), returning(node(api.NCall)), returning(node(api.NNext, one)), returning(node(api.NNot)), returning(node(api.NNeg, one, one)), returning(node(api.NLen)),
		returning(operation(0, one, one)), returning(operation(api.OpNot, one, one)), returning(operation(api.OpNeg, one, one)), returning(operation(12, one, one)), returning(operation(22, one, one)), returning(operation(-1, one, one)), returning(api.Node{Kind: api.NOp, Num: api.OpAdd, Kids: []api.Node{one}}), returning(api.Node{Kind: api.NOp, Num: api.OpAdd, Text: "+", Kids: []api.Node{one, one}}),
		returning(node(api.NBlock)), returning(node(api.NEmit, one)),
	} {
		printsNone(t, n, api.ErrForm)
		isJudged(t, n)
	}
}

// D4: too deep, or too many nodes, is told ahead of all else; endless and shared kids are gone over only so far (P1).
func TestPrintSize(t *testing.T) {
	for depth := range 3 * api.MaxDepth {
		n := name("a")
		for range depth {
			n = node(api.NNeg, n)
		}
		// The program, the function, its block, the stat and the name are 5 deep.
		if depth <= api.MaxDepth-5 {
			prints(t, returning(n), "function f ( ) return "+strings.Repeat("- ", depth)+"a ; end")
		} else {
			printsNone(t, returning(n), api.ErrSize)
		}
		n.Kids = append(n.Kids, node(0))
		want := api.ErrForm
		if depth > api.MaxDepth-5 {
			want = api.ErrSize
		}
		printsNone(t, returning(n), want)
	}
	// The program, the function, its block, and two nodes a stat.
	var stats []api.Node
	for range (api.MaxNodes - 3) / 2 {
		stats = append(stats, node(api.NEmit, number(1)))
	}
	n := around(stats...)
	isBest(t, n)
	fun := &n.Kids[0]
	fun.Kids = slices.Insert(fun.Kids, 0, named(api.NParam, "a"))
	isBest(t, n)
	fun.Kids = slices.Insert(fun.Kids, 0, named(api.NParam, "a"))
	printsNone(t, n, api.ErrSize)
	fun.Kids[0].Kind = -1
	printsNone(t, n, api.ErrSize)
	printsNone(t, node(0, make([]api.Node, api.MaxNodes-1)...), api.ErrForm)
	printsNone(t, node(0, make([]api.Node, api.MaxNodes)...), api.ErrSize)
	printsNone(t, node(0, make([]api.Node, 1<<20)...), api.ErrSize)
	endless := make([]api.Node, 2)
	endless[0] = api.Node{Kind: api.NNeg, Kids: endless[:1]}
	endless[1] = api.Node{Kind: api.NUnit, Kids: endless}
	printsNone(t, endless[0], api.ErrSize)
	printsNone(t, endless[1], api.ErrSize)
	shared := []api.Node{name("a"), name("a")}
	for range 60 {
		both := node(api.NNext, shared...)
		shared = []api.Node{both, both}
	}
	printsNone(t, returning(shared[0]), api.ErrSize)
	deep := api.Node{}
	for range 1 << 16 {
		deep = node(api.NNeg, deep)
	}
	printsNone(t, deep, api.ErrSize)
}

// D4: a text of MaxText bytes may be, a longer one may not; a wrong form is told ahead of that, wherever it is.
func TestPrintLong(t *testing.T) {
	long := node(api.NEmit, named(api.NText, strings.Repeat("x", api.MaxLong)))
	var stats []api.Node
	for range api.MaxText / (api.MaxLong + 10) {
		stats = append(stats, long)
	}
	text, _ := syntax.Print(around(stats...))
	// What is left over is filled by one more text, as long as it must be.
	over := api.MaxText - len(text) - len(`emit "" ; `)
	stats = append(stats, node(api.NEmit, named(api.NText, strings.Repeat("y", over))))
	text, e := syntax.Print(around(stats...))
	if len(text) != api.MaxText || e != api.OK {
		t.Errorf("%d bytes, %v", len(text), e)
	}
	isBest(t, around(stats...))
	last := &stats[len(stats)-1].Kids[0]
	last.Text += "y"
	printsNone(t, around(stats...), api.ErrSize)
	stats = append(stats, stats...)
	printsNone(t, around(stats...), api.ErrSize)
	stats = append(stats, node(api.NEmit, number(-1)))
	printsNone(t, around(stats...), api.ErrForm)
}

// P3: what is handed in is left as it is, also behind its length.
func TestPrintLeaves(t *testing.T) {
	n, _ := syntax.Parse(program)
	n = clone(n)
	every(&n, func(n *api.Node) {
		n.Kids = append(n.Kids, api.Node{Kind: 99}, api.Node{Kind: 99})[:len(n.Kids)]
	})
	was := show(n)
	prints(t, n, program)
	every(&n, func(n *api.Node) {
		for _, kid := range n.Kids[:len(n.Kids)+2][len(n.Kids):] {
			if show(kid) != "?99" {
				t.Errorf("%s stands behind the kids", show(kid))
			}
		}
	})
	if show(n) != was {
		t.Errorf("%s, want %s", show(n), was)
	}
}

// grow makes a node of bytes: a kind, how many kids, and what it has; it answers what is left of them.
func grow(b []byte, depth int) (api.Node, []byte) {
	if len(b) < 2 {
		return name("a"), nil
	}
	n := api.Node{Kind: int(b[0]%29) - 1}
	kids := int(b[1] % 4)
	if has := b[1] / 4 % 8; has > 4 {
		n.Num = int64(has)
	}
	switch n.Kind {
	case api.NFun, api.NParam, api.NLocal, api.NFor, api.NName, api.NText:
		n.Text = string('a' + b[1]/32)
	}
	b = b[2:]
	for i := 0; i < kids && depth < 2*api.MaxDepth; i++ {
		var kid api.Node
		kid, b = grow(b, depth+1)
		n.Kids = append(n.Kids, kid)
	}
	return n, b
}

// D4, D5, P1: no node makes Print panic, or answer anything else than what is said.
func FuzzPrint(f *testing.F) {
	f.Add([]byte{}, "a")
	f.Add([]byte{2, 1, 3, 1, 5, 1, 12, 1, 14, 0}, "a")
	f.Add([]byte{2, 1, 3, 1, 5, 1, 12, 1, 23, 2, 19, 0, 19, 0}, "and")
	f.Fuzz(func(t *testing.T, b []byte, text string) {
		n, rest := grow(b, 0)
		isJudgedShort(t, n)
		if len(text) > api.MaxLong {
			return
		}
		for _, kind := range []int{api.NName, api.NText} {
			isJudgedShort(t, returning(named(kind, text)))
		}
		x, _ := grow(rest, 0)
		isJudgedShort(t, returning(x))
		isJudgedShort(t, around(x, n))
	})
}

// isJudgedShort does so, unless what is put down loosely is too long to be read.
func isJudgedShort(t *testing.T, n api.Node) {
	t.Helper()
	if len(loosely(n)) < api.MaxText/2 {
		isJudged(t, n)
	}
}
