package syntax

import (
	"slices"

	"packtrail/api"
)

// stray is thrown at a token with which no program goes on, ended where a text ends and a program does not.
type (
	stray struct{ at int }
	ended struct{}
)

// read makes a program's node of the tokens of a text that is so long.
func read(tokens []api.Token, size int) (n api.Node, fault api.Fault) {
	defer func() {
		switch x := recover().(type) {
		case nil:
		case stray:
			fault = api.Fault{Code: api.ErrForm, At: x.at}
		case ended:
			fault = api.Fault{Code: api.ErrForm, At: size}
		default:
			panic(x)
		}
	}()
	r := reader{words: newWords(), tokens: tokens}
	return r.unit(), api.Fault{}
}

// reader goes over the tokens, and never back: so the one that it gives up at is the first that is wrong.
type reader struct {
	words
	tokens []api.Token
	at     int
}

// token is the next one; behind the last one it is of no kind.
func (r *reader) token() api.Token {
	if r.at == len(r.tokens) {
		return api.Token{}
	}
	return r.tokens[r.at]
}

// word is what the next token says; a KText says nothing, whatever is in it, nor does the end.
func (r *reader) word() string {
	if t := r.token(); t.Kind != api.KText {
		return t.Text
	}
	return ""
}

// sees tells whether one of the words is the next token.
func (r *reader) sees(words ...string) bool {
	return slices.Contains(words, r.word())
}

// takes goes behind a word, if it is the next token.
func (r *reader) takes(word string) bool {
	if !r.sees(word) {
		return false
	}
	r.at++
	return true
}

// wants goes behind words that must stand there, one behind the other.
func (r *reader) wants(words ...string) {
	for _, word := range words {
		if !r.takes(word) {
			r.giveUp()
		}
	}
}

func (r *reader) giveUp() {
	if r.at == len(r.tokens) {
		panic(ended{})
	}
	panic(stray{r.token().At})
}

// name goes behind a NAME.
func (r *reader) name() string {
	t := r.token()
	if _, ok := r.reserved[t.Text]; ok || t.Kind != api.KWord {
		r.giveUp()
	}
	r.at++
	return t.Text
}

func (r *reader) unit() api.Node {
	n := api.Node{Kind: api.NUnit}
	for r.at < len(r.tokens) {
		n.Kids = append(n.Kids, r.fun())
	}
	return n
}

func (r *reader) fun() api.Node {
	r.wants("function")
	n := api.Node{Kind: api.NFun, Text: r.name()}
	r.wants("(")
	for more := !r.sees(")"); more; more = r.takes(",") {
		n.Kids = append(n.Kids, api.Node{Kind: api.NParam, Text: r.name()})
	}
	r.wants(")")
	n.Kids = append(n.Kids, r.block())
	r.wants("end")
	return n
}

// block reads stats up to a word behind them; who asked for it says which one that may be.
func (r *reader) block() api.Node {
	n := api.Node{Kind: api.NBlock}
	for !r.sees("end", "else") {
		n.Kids = append(n.Kids, r.stat())
	}
	return n
}

func (r *reader) stat() api.Node {
	switch {
	case r.takes("local"):
		return r.local()
	case r.takes("if"):
		return r.choice()
	case r.takes("while"):
		return r.loop()
	case r.takes("for"):
		return r.count()
	case r.takes("return"):
		return r.given(api.NReturn)
	case r.takes("emit"):
		return r.given(api.NEmit)
	}
	return r.setOrCall()
}

func (r *reader) local() api.Node {
	name := r.name()
	r.wants("=")
	n := r.given(api.NLocal)
	n.Text = name
	return n
}

// given reads what is left of a stat that ends in an expression.
func (r *reader) given(kind int, ahead ...api.Node) api.Node {
	n := api.Node{Kind: kind, Kids: append(ahead, r.expr())}
	r.wants(";")
	return n
}

func (r *reader) choice() api.Node {
	cond := r.expr()
	r.wants("then")
	n := api.Node{Kind: api.NIf, Kids: []api.Node{cond, r.block()}}
	if r.takes("else") {
		n.Kids = append(n.Kids, r.block())
	}
	r.wants("end")
	return n
}

func (r *reader) loop() api.Node {
	cond := r.expr()
	return api.Node{Kind: api.NWhile, Kids: []api.Node{cond, r.body()}}
}

func (r *reader) count() api.Node {
	name := r.name()
	r.wants("=")
	from := r.expr()
	r.wants(",")
	to := r.expr()
	return api.Node{Kind: api.NFor, Text: name, Kids: []api.Node{from, to, r.body()}}
}

// body reads what a loop does in each round.
func (r *reader) body() api.Node {
	r.wants("do")
	n := r.block()
	r.wants("end")
	return n
}

// setOrCall reads a stat that begins with a NAME: only what comes behind tells which one it is.
func (r *reader) setOrCall() api.Node {
	n := api.Node{Kind: api.NName, Text: r.name()}
	place := true
	for r.sees("[", "(") {
		n = r.suffix(n)
		place = place && n.Kind == api.NIndex
	}
	if place && r.takes("=") {
		return r.given(api.NSet, n)
	}
	if n.Kind != api.NCall {
		r.giveUp()
	}
	r.wants(";")
	return api.Node{Kind: api.NDo, Kids: []api.Node{n}}
}
