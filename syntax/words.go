package syntax

import (
	"strings"

	"packtrail/api"
)

// reserved has the words that are no names (D1).
const reserved = "and do else emit end false for function if local next nil not or return then true while"

// How much an expression binds, by what it is made with (D2): the more, the greater.
const (
	bindsOr = iota + 1
	bindsAnd
	bindsSame // alone in that at most two go together, and not a row
	bindsCat
	bindsAdd
	bindsMul
	bindsSign // - not # ahead of it
	bindsMost
)

// operator is what a word between two expressions says.
type operator struct {
	num   int64
	binds int
}

// spelling is how an operator is written.
type spelling struct {
	word  string
	binds int
}

// words are those of the language, to read and to write by.
type words struct {
	reserved  map[string]struct{}
	operators map[string]operator
	spellings map[int64]spelling // by the operator's number
	signs     map[string]int     // those ahead of an expression: the node's kind
	atoms     map[string]int     // those that are an expression: the node's kind
}

func newWords() words {
	w := words{
		reserved:  map[string]struct{}{},
		operators: newOperators(),
		spellings: map[int64]spelling{},
		signs:     map[string]int{"-": api.NNeg, "not": api.NNot, "#": api.NLen},
		atoms:     map[string]int{"nil": api.NNil, "true": api.NTrue, "false": api.NFalse},
	}
	for _, word := range strings.Fields(reserved) {
		w.reserved[word] = struct{}{}
	}
	for word, op := range w.operators {
		w.spellings[op.num] = spelling{word, op.binds}
	}
	return w
}

func newOperators() map[string]operator {
	return map[string]operator{
		"or":  {api.OpOr, bindsOr},
		"and": {api.OpAnd, bindsAnd},
		"==":  {api.OpSame, bindsSame},
		"<":   {api.OpLess, bindsSame},
		"<=":  {api.OpMost, bindsSame},
		"..":  {api.OpCat, bindsCat},
		"+":   {api.OpAdd, bindsAdd},
		"-":   {api.OpSub, bindsAdd},
		"*":   {api.OpMul, bindsMul},
		"/":   {api.OpDiv, bindsMul},
		"%":   {api.OpMod, bindsMul},
	}
}

// binds is how much a node binds.
func (w words) binds(n api.Node) int {
	switch n.Kind {
	case api.NOp:
		return w.spellings[n.Num].binds
	case api.NNot, api.NNeg, api.NLen:
		return bindsSign
	}
	return bindsMost
}
