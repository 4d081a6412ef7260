package syntax_test

import (
	"slices"
	"strconv"
	"strings"
	"testing"

	"packtrail/api"
	"packtrail/lex"
	"packtrail/syntax"
)

// What D1 and D2 say, once more, as rules that are tried all at once, so that Parse is not held against itself.

// rule says what a part is made of. Its node has that kind and number, the text of the part at text, the nodes of the parts at kids; where it is of no kind, the nodes go on as they are.
type rule struct {
	id    int
	left  string
	right []string
	kind  int
	num   int64
	text  int
	kids  []int
}

// without is what stands where a rule takes no text.
const without = -1

func made(left, right string, kind int, kids ...int) rule {
	return rule{left: left, right: strings.Fields(right), kind: kind, text: without, kids: kids}
}

func called(left, right string, kind, text int, kids ...int) rule {
	return rule{left: left, right: strings.Fields(right), kind: kind, text: text, kids: kids}
}

// rules has them by what they make; NAME, NUMBER, TEXT are tokens, and so is what makes nothing.
func rules() map[string][]rule {
	all := []rule{
		made("unit", "", api.NUnit), made("unit", "funs", api.NUnit, 0),
		made("funs", "fun", 0, 0), made("funs", "funs fun", 0, 0, 1),
		called("fun", "function NAME ( params ) block end", api.NFun, 1, 3, 5),
		made("params", "", 0), made("params", "names", 0, 0),
		made("names", "param", 0, 0), made("names", "names , param", 0, 0, 2),
		called("param", "NAME", api.NParam, 0),
		made("block", "", api.NBlock), made("block", "stats", api.NBlock, 0),
		made("stats", "stat", 0, 0), made("stats", "stats stat", 0, 0, 1),
		called("stat", "local NAME = expr ;", api.NLocal, 1, 3),
		made("stat", "place = expr ;", api.NSet, 0, 2),
		made("stat", "call ;", api.NDo, 0),
		made("stat", "if expr then block end", api.NIf, 1, 3),
		made("stat", "if expr then block else block end", api.NIf, 1, 3, 5),
		made("stat", "while expr do block end", api.NWhile, 1, 3),
		called("stat", "for NAME = expr , expr do block end", api.NFor, 1, 3, 5, 7),
		made("stat", "return expr ;", api.NReturn, 1), made("stat", "emit expr ;", api.NEmit, 1),
		called("place", "NAME", api.NName, 0), made("place", "place [ expr ]", api.NIndex, 0, 2),
		made("call", "reached ( args )", api.NCall, 0, 2),
		called("reached", "NAME", api.NName, 0), made("reached", "reached [ expr ]", api.NIndex, 0, 2), made("reached", "reached ( args )", api.NCall, 0, 2),
		made("args", "", 0), made("args", "exprs", 0, 0),
		made("exprs", "expr", 0, 0), made("exprs", "exprs , expr", 0, 0, 2),
		made("ahead", "behind", 0, 0), made("ahead", "- ahead", api.NNeg, 1), made("ahead", "not ahead", api.NNot, 1), made("ahead", "# ahead", api.NLen, 1),
		made("behind", "simple", 0, 0), made("behind", "behind [ expr ]", api.NIndex, 0, 2), made("behind", "behind ( args )", api.NCall, 0, 2),
		called("simple", "NUMBER", api.NInt, 0), called("simple", "TEXT", api.NText, 0), called("simple", "NAME", api.NName, 0),
		made("simple", "nil", api.NNil), made("simple", "true", api.NTrue), made("simple", "false", api.NFalse), made("simple", "{ }", api.NNew),
		made("simple", "next ( expr , expr )", api.NNext, 2, 4), made("simple", "( expr )", 0, 1),
	}
	names := []string{"expr", "both", "same", "cat", "add", "mul", "ahead"}
	for i, l := range levels() {
		this, more := names[i], names[i+1]
		all = append(all, made(this, more, 0, 0))
		for k, word := range l.words {
			first := this
			if !l.row {
				first = more
			}
			r := made(this, first+" "+word+" "+more, api.NOp, 0, 2)
			r.num = l.nums[k]
			all = append(all, r)
		}
	}
	out := map[string][]rule{}
	for i, r := range all {
		r.id = i
		out[r.left] = append(out[r.left], r)
	}
	return out
}

// item is a rule that is gone along up to somewhere: what its parts are so far, and from which token on.
type item struct {
	rule
	from  int
	parts [][]api.Node
}

func (x item) done() bool   { return len(x.parts) == len(x.right) }
func (x item) next() string { return x.right[len(x.parts)] }

// with is the item one part further.
func (x item) with(part []api.Node) item {
	x.parts = append(slices.Clone(x.parts), part)
	return x
}

// nodes are those of an item that is done.
func (x item) nodes() []api.Node {
	var kids []api.Node
	for _, i := range x.kids {
		kids = append(kids, x.parts[i]...)
	}
	if x.kind == 0 {
		return kids
	}
	n := api.Node{Kind: x.kind, Num: x.num, Kids: kids}
	if x.text != without {
		n.Text = x.parts[x.text][0].Text
	}
	if x.kind == api.NInt {
		n.Num, _ = strconv.ParseInt(n.Text, 10, 64)
		n.Text = ""
	}
	return []api.Node{n}
}

// plain goes along all rules at once: of each place among the tokens the items that are there.
type plain struct {
	rules map[string][]rule
	sets  [][]item
}

func newPlain() *plain {
	p := &plain{rules: rules()}
	var first []item
	for _, r := range p.rules["unit"] {
		first = append(first, item{rule: r})
	}
	p.sets = append(p.sets, nil)
	p.fill(first)
	return p
}

// part is what a rule calls a token.
func part(x api.Token) string {
	switch {
	case x.Kind == api.KNumber:
		return "NUMBER"
	case x.Kind == api.KText:
		return "TEXT"
	case x.Kind == api.KWord && !slices.Contains(strings.Fields("and do else emit end false for function if local next nil not or return then true while"), x.Text):
		return "NAME"
	}
	return x.Text
}

// goes goes over a token; it tells whether any program goes on so.
func (p *plain) goes(x api.Token) bool {
	var first []item
	want := part(x)
	for _, it := range p.sets[len(p.sets)-1] {
		if it.done() {
			continue
		}
		if it.next() == want {
			first = append(first, it.with([]api.Node{{Text: x.Text}}))
		}
	}
	if len(first) == 0 {
		return false
	}
	p.sets = append(p.sets, nil)
	p.fill(first)
	return true
}

// fill makes the last set of what stands there first: what begins there, and what ends there, too.
func (p *plain) fill(first []item) {
	here := len(p.sets) - 1
	seen := map[[3]int]bool{}
	for len(first) > 0 {
		x := first[0]
		first = first[1:]
		k := [3]int{x.id, len(x.parts), x.from}
		if seen[k] {
			continue
		}
		seen[k] = true
		p.sets[here] = append(p.sets[here], x)
		if x.done() {
			for _, y := range p.sets[x.from] {
				if !y.done() && y.next() == x.left {
					first = append(first, y.with(x.nodes()))
				}
			}
			continue
		}
		for _, r := range p.rules[x.next()] {
			if len(r.right) == 0 {
				first = append(first, x.with(item{rule: r}.nodes()))
				continue
			}
			first = append(first, item{rule: r, from: here})
		}
	}
}

// unit is the program that ends here, if there is one.
func (p *plain) unit() (api.Node, bool) {
	for _, x := range p.sets[len(p.sets)-1] {
		if x.left == "unit" && x.done() && x.from == 0 {
			return x.nodes()[0], true
		}
	}
	return api.Node{}, false
}

// size is how deep a node is, and how many nodes it has.
func size(n api.Node) (deep, nodes int) {
	for _, kid := range n.Kids {
		d, c := size(kid)
		deep, nodes = max(deep, d), nodes+c
	}
	return deep + 1, nodes + 1
}

// ending is what Parse answers, as D3 says it, where all tokens are gone over.
func (p *plain) ending(text string) (api.Node, api.Fault) {
	n, ok := p.unit()
	if !ok {
		return api.Node{}, api.Fault{Code: api.ErrForm, At: len(text)}
	}
	if deep, nodes := size(n); deep > api.MaxDepth || nodes > api.MaxNodes {
		return api.Node{}, api.Fault{Code: api.ErrSize}
	}
	return n, api.Fault{}
}

// parse does what D3 says, of tokens of which so many are gone over; it leaves p as it was.
func (p *plain) parse(text string, over int) (api.Node, api.Fault) {
	tokens, f := lex.Scan(text)
	if f != (api.Fault{}) {
		return api.Node{}, f
	}
	defer func(here int) { p.sets = p.sets[:here] }(len(p.sets))
	for _, x := range tokens[over:] {
		if !p.goes(x) {
			return api.Node{}, api.Fault{Code: api.ErrForm, At: x.At}
		}
	}
	return p.ending(text)
}

// agrees holds what Parse answers against what is wanted.
func agrees(t *testing.T, text string, want api.Node, fault api.Fault) {
	t.Helper()
	if n, f := syntax.Parse(text); show(n) != show(want) || f != fault {
		t.Fatalf("Parse(%q): %s, %v; want %s, %v", text, show(n), f, show(want), fault)
	}
}

// vocabulary has all words and signs, and one token of each other kind.
const vocabulary = `and do else emit end false for function if local next nil not or return then true while ( ) { } [ ] , ; = == < <= + - * / % .. # a 7 "b" "end"`

// allFrom tries all programs and all that are none, with up to so many more tokens behind a beginning.
func (p *plain) allFrom(t *testing.T, text string, more int) {
	n, f := p.ending(text)
	agrees(t, text, n, f)
	if more == 0 {
		return
	}
	for _, word := range strings.Fields(vocabulary) {
		longer := text + " " + word
		tokens, _ := lex.Scan(longer)
		x := tokens[len(tokens)-1]
		if !p.goes(x) {
			agrees(t, longer, api.Node{}, api.Fault{Code: api.ErrForm, At: x.At})
			continue
		}
		p.allFrom(t, longer, more-1)
		p.sets = p.sets[:len(p.sets)-1]
	}
}

// D1, D2, D3: each token at each place, behind all that may stand ahead of it.
func TestAllShort(t *testing.T) {
	for text, more := range map[string]int{
		"": 6, "function a ( a": 4, "function a ( )": 3, "function a ( ) a [ a ]": 3, "function a ( ) a ( a )": 3, "function a ( ) if a then": 2, "function a ( ) if a then else a = a ;": 2,
		"function a ( ) while": 3, "function a ( ) for a =": 3, "function a ( ) for a = a ,": 3, "function a ( ) emit - a": 3, "function a ( ) return a ==": 3, "function a ( ) return ( a ..": 3, "function a ( ) return next (": 3, "function a ( ) return a ( a ,": 3,
	} {
		p := newPlain()
		tokens, _ := lex.Scan(text)
		for _, x := range tokens {
			if !p.goes(x) {
				t.Fatalf("%q is no beginning", text)
			}
		}
		p.allFrom(t, text, more)
	}
}

// program has each form that there is.
const program = `function main ( ) local t = { } ; t [ 1 ] = 2 ; for i = 1 , # t do f ( i , t [ i ] ) ( ) ; end if t == nil or not ( 1 < 2 ) and true then emit "a" .. 1 + 2 * - 3 ; else while next ( t , nil ) <= 4 - 5 / 6 % 7 do return f ( ) [ 8 ] ; end end end function f ( a , b ) end`

// D1, D2, D3: a program with one token less, more, changed for another one, or changed with the next one.
func TestOneWrong(t *testing.T) {
	words := strings.Fields(program)
	p := newPlain()
	try := func(over int, words ...string) {
		text := strings.Join(words, " ")
		n, f := p.parse(text, over)
		agrees(t, text, n, f)
	}
	try(0, words...)
	for i, word := range words {
		ahead, behind := words[:i], words[i+1:]
		try(i, slices.Concat(ahead, behind)...)
		try(i, slices.Concat(ahead, words[i:i+1], words[i:])...)
		if i+1 < len(words) {
			try(i, slices.Concat(ahead, words[i+1:i+2], words[i:i+1], words[i+2:])...)
		}
		for _, other := range strings.Fields(vocabulary) {
			try(i, slices.Concat(ahead, []string{other}, behind)...)
		}
		tokens, _ := lex.Scan(word)
		p.goes(tokens[0])
	}
}

// D1, D2, D3, P1: no text makes Parse panic, or answer anything else than what is said.
func FuzzParse(f *testing.F) {
	for _, s := range []string{"", program, "function f(a)return(1+a)*-3;end", "function f(a,)end", "function f() x; end", "function f() a(1)=2; end", "function f() return 1==2==3; end", "function f() .", "function f() return ((((((((((1))))))))));end", "function f() return - - - - - - - - - - 1; end"} {
		f.Add(s)
	}
	f.Fuzz(func(t *testing.T, text string) {
		if len(text) > 400 {
			return
		}
		n, fault := newPlain().parse(text, 0)
		agrees(t, text, n, fault)
	})
}
