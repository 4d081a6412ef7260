package syntax

import (
	"slices"

	"packtrail/api"
	"packtrail/lex"
)

// The questions here tell of a node whether Parse may answer it there (D4): what its kind does not name must be zero, too (P2).

func (w words) isUnit(n api.Node) bool {
	return n.Kind == api.NUnit && bare(n) && all(n.Kids, w.isFun)
}

func (w words) isFun(n api.Node) bool {
	last := len(n.Kids) - 1
	return n.Kind == api.NFun && w.named(n) && last >= 0 && all(n.Kids[:last], w.isParam) && w.isBlock(n.Kids[last])
}

func (w words) isParam(n api.Node) bool {
	return n.Kind == api.NParam && w.named(n) && len(n.Kids) == 0
}

func (w words) isBlock(n api.Node) bool {
	return n.Kind == api.NBlock && bare(n) && all(n.Kids, w.isStat)
}

func (w words) isStat(n api.Node) bool {
	switch n.Kind {
	case api.NLocal:
		return w.named(n) && each(n.Kids, w.isExpr)
	case api.NSet:
		return bare(n) && each(n.Kids, w.isPlace, w.isExpr)
	case api.NDo:
		return bare(n) && each(n.Kids, w.isCall)
	case api.NIf:
		return bare(n) && (each(n.Kids, w.isExpr, w.isBlock) || each(n.Kids, w.isExpr, w.isBlock, w.isBlock))
	case api.NWhile:
		return bare(n) && each(n.Kids, w.isExpr, w.isBlock)
	case api.NFor:
		return w.named(n) && each(n.Kids, w.isExpr, w.isExpr, w.isBlock)
	case api.NReturn, api.NEmit:
		return bare(n) && each(n.Kids, w.isExpr)
	}
	return false
}

func (w words) isPlace(n api.Node) bool {
	return w.isExpr(n) && begins(n, api.NIndex)
}

// isCall tells of what is called as a stat: unlike other expressions, it begins with a NAME.
func (w words) isCall(n api.Node) bool {
	return n.Kind == api.NCall && w.isExpr(n) && begins(n, api.NIndex, api.NCall)
}

// begins tells whether an expression is a NAME, with none but such kinds made of it.
func begins(n api.Node, kinds ...int) bool {
	for slices.Contains(kinds, n.Kind) {
		n = n.Kids[0]
	}
	return n.Kind == api.NName
}

func (w words) isExpr(n api.Node) bool {
	switch n.Kind {
	case api.NInt:
		return n.Num >= 0 && n.Text == "" && each(n.Kids)
	case api.NText:
		return n.Num == 0 && isToken(api.KText, n.Text, `"`+n.Text+`"`) && each(n.Kids)
	case api.NName:
		return w.named(n) && each(n.Kids)
	case api.NNil, api.NTrue, api.NFalse, api.NNew:
		return bare(n) && each(n.Kids)
	case api.NNot, api.NNeg, api.NLen:
		return bare(n) && each(n.Kids, w.isExpr)
	case api.NIndex, api.NNext:
		return bare(n) && each(n.Kids, w.isExpr, w.isExpr)
	case api.NCall:
		return bare(n) && len(n.Kids) > 0 && all(n.Kids, w.isExpr)
	case api.NOp:
		_, ok := w.spellings[n.Num]
		return ok && n.Text == "" && each(n.Kids, w.isExpr, w.isExpr)
	}
	return false
}

// named tells whether a node has a NAME and no number.
func (w words) named(n api.Node) bool {
	_, isReserved := w.reserved[n.Text]
	return n.Num == 0 && !isReserved && isToken(api.KWord, n.Text, n.Text)
}

// bare tells whether a node has neither a text nor a number.
func bare(n api.Node) bool { return n.Text == "" && n.Num == 0 }

// isToken tells whether what is written is read as just one token, of that kind and text.
func isToken(kind int, text, written string) bool {
	tokens, _ := lex.Scan(written)
	return len(tokens) == 1 && tokens[0] == api.Token{Kind: kind, Text: text}
}

// each tells whether there are as many kids as questions, and each is as it is asked.
func each(kids []api.Node, questions ...func(api.Node) bool) bool {
	if len(kids) != len(questions) {
		return false
	}
	for i, asked := range questions {
		if !asked(kids[i]) {
			return false
		}
	}
	return true
}

// all tells whether all kids are as it is asked.
func all(kids []api.Node, asked func(api.Node) bool) bool {
	for _, kid := range kids {
		if !asked(kid) {
			return false
		}
	}
	return true
}
