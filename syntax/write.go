package syntax

import (
	"strconv"

	"packtrail/api"
)

// writer puts down the tokens of nodes of whose form it is sure.
type writer struct {
	words
	tokens []string
}

func (w *writer) put(tokens ...string) {
	w.tokens = append(w.tokens, tokens...)
}

func (w *writer) unit(n api.Node) {
	for _, kid := range n.Kids {
		w.fun(kid)
	}
}

func (w *writer) fun(n api.Node) {
	last := len(n.Kids) - 1
	w.put("function", n.Text, "(")
	for i, kid := range n.Kids[:last] {
		if i > 0 {
			w.put(",")
		}
		w.put(kid.Text)
	}
	w.put(")")
	w.block(n.Kids[last])
	w.put("end")
}

func (w *writer) block(n api.Node) {
	for _, kid := range n.Kids {
		w.stat(kid)
	}
}

func (w *writer) stat(n api.Node) {
	switch n.Kind {
	case api.NLocal:
		w.put("local", n.Text, "=")
		w.given(n.Kids[0])
	case api.NSet:
		w.expr(n.Kids[0])
		w.put("=")
		w.given(n.Kids[1])
	case api.NDo:
		w.given(n.Kids[0])
	case api.NIf:
		w.choice(n)
	case api.NWhile:
		w.put("while")
		w.expr(n.Kids[0])
		w.body(n.Kids[1])
	case api.NFor:
		w.put("for", n.Text, "=")
		w.row(n.Kids[:2])
		w.body(n.Kids[2])
	case api.NReturn:
		w.put("return")
		w.given(n.Kids[0])
	case api.NEmit:
		w.put("emit")
		w.given(n.Kids[0])
	}
}

// given puts down the expression that a stat ends in.
func (w *writer) given(n api.Node) {
	w.expr(n)
	w.put(";")
}

func (w *writer) choice(n api.Node) {
	w.put("if")
	w.expr(n.Kids[0])
	w.put("then")
	w.block(n.Kids[1])
	for _, kid := range n.Kids[2:] {
		w.put("else")
		w.block(kid)
	}
	w.put("end")
}

// body puts down what a loop does in each round.
func (w *writer) body(n api.Node) {
	w.put("do")
	w.block(n)
	w.put("end")
}

// row puts down expressions with commas between.
func (w *writer) row(kids []api.Node) {
	for i, kid := range kids {
		if i > 0 {
			w.put(",")
		}
		w.expr(kid)
	}
}

func (w *writer) expr(n api.Node) {
	switch n.Kind {
	case api.NInt:
		w.put(strconv.FormatInt(n.Num, 10))
	case api.NText:
		w.put(`"` + n.Text + `"`)
	case api.NNil:
		w.put("nil")
	case api.NTrue:
		w.put("true")
	case api.NFalse:
		w.put("false")
	case api.NName:
		w.put(n.Text)
	case api.NNew:
		w.put("{", "}")
	case api.NIndex:
		w.suffixed(n, "[", "]")
	case api.NCall:
		w.suffixed(n, "(", ")")
	case api.NOp:
		w.operation(n)
	case api.NNot:
		w.signed("not", n)
	case api.NNeg:
		w.signed("-", n)
	case api.NLen:
		w.signed("#", n)
	case api.NNext:
		w.put("next", "(")
		w.row(n.Kids)
		w.put(")")
	}
}

// signed puts down an expression with a sign ahead of it.
func (w *writer) signed(sign string, n api.Node) {
	w.put(sign)
	w.within(n.Kids[0], bindsSign)
}

// suffixed puts down an expression with an index or args behind it.
func (w *writer) suffixed(n api.Node, opens, closes string) {
	w.within(n.Kids[0], bindsMost)
	w.put(opens)
	w.row(n.Kids[1:])
	w.put(closes)
}

// operation puts down two expressions with a word between; where they make a row, one of the same row may stand ahead of it as it is.
func (w *writer) operation(n api.Node) {
	op := w.spellings[n.Num]
	ahead := op.binds
	if op.binds == bindsSame {
		ahead++
	}
	w.within(n.Kids[0], ahead)
	w.put(op.word)
	w.within(n.Kids[1], op.binds+1)
}

// within puts down an expression where only one that binds at least so much may stand as it is.
func (w *writer) within(n api.Node, binds int) {
	if w.binds(n) >= binds {
		w.expr(n)
		return
	}
	w.put("(")
	w.expr(n)
	w.put(")")
}
