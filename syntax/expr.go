package syntax

import (
	"strconv"

	"packtrail/api"
)

func (r *reader) expr() api.Node { return r.row(bindsOr) }

// row reads an expression in which nothing outside of parentheses binds less than so much.
func (r *reader) row(binds int) api.Node {
	if binds == bindsSign {
		return r.signed()
	}
	n := r.row(binds + 1)
	for {
		op := r.operators[r.word()]
		if op.binds != binds {
			return n
		}
		r.at++
		n = api.Node{Kind: api.NOp, Num: op.num, Kids: []api.Node{n, r.row(binds + 1)}}
		if binds == bindsSame {
			return n
		}
	}
}

// signed reads an expression with - not # ahead of it, or without.
func (r *reader) signed() api.Node {
	kind, ok := r.signs[r.word()]
	if !ok {
		return r.suffixed()
	}
	r.at++
	return api.Node{Kind: kind, Kids: []api.Node{r.signed()}}
}

// suffixed reads an expression with indices and args behind it, or without.
func (r *reader) suffixed() api.Node {
	n := r.simple()
	for r.sees("[", "(") {
		n = r.suffix(n)
	}
	return n
}

// suffix reads the index or the args behind n, one of which is there.
func (r *reader) suffix(n api.Node) api.Node {
	if r.takes("[") {
		n = api.Node{Kind: api.NIndex, Kids: []api.Node{n, r.expr()}}
		r.wants("]")
		return n
	}
	r.wants("(")
	n = api.Node{Kind: api.NCall, Kids: []api.Node{n}}
	for more := !r.sees(")"); more; more = r.takes(",") {
		n.Kids = append(n.Kids, r.expr())
	}
	r.wants(")")
	return n
}

// simple reads what an expression is made of.
func (r *reader) simple() api.Node {
	if n, ok := r.literal(); ok {
		return n
	}
	switch {
	case r.takes("{"):
		r.wants("}")
		return api.Node{Kind: api.NNew}
	case r.takes("next"):
		return r.next()
	case r.takes("("):
		n := r.expr()
		r.wants(")")
		return n
	}
	return api.Node{Kind: api.NName, Text: r.name()}
}

// literal reads an expression that is one token and no NAME, if there is one.
func (r *reader) literal() (api.Node, bool) {
	t := r.token()
	kind, ok := r.atoms[r.word()]
	n := api.Node{Kind: kind}
	switch t.Kind {
	case api.KNumber:
		// Scan has seen to it that this is a number.
		num, _ := strconv.ParseInt(t.Text, 10, 64)
		n, ok = api.Node{Kind: api.NInt, Num: num}, true
	case api.KText:
		n, ok = api.Node{Kind: api.NText, Text: t.Text}, true
	}
	if ok {
		r.at++
	}
	return n, ok
}

func (r *reader) next() api.Node {
	r.wants("(")
	of := r.expr()
	r.wants(",")
	n := api.Node{Kind: api.NNext, Kids: []api.Node{of, r.expr()}}
	r.wants(")")
	return n
}
