package check

import (
	"slices"

	"packtrail/api"
)

// Part is a node of a program that may be, together with its slot (E5), which else is known by the node's number alone.
type Part struct {
	Kind int
	Text string
	Num  int64
	Slot int
	Kids []Part
}

// Lay gives a program's node, and those below it, with their slots, or Check's fault.
func Lay(text string) (Part, api.Fault) {
	n, slots, fault := checked(text)
	if fault.Code != api.OK {
		return Part{}, fault
	}
	program, _ := lay(n, slots)
	return program, api.Fault{}
}

// lay gives a node and those below it their slots, of those from its own number on, and answers the slots behind them.
func lay(n api.Node, slots []int) (Part, []int) {
	p := Part{Kind: n.Kind, Text: n.Text, Num: n.Num, Slot: slots[0]}
	slots = slots[1:]
	for _, kid := range n.Kids {
		var k Part
		k, slots = lay(kid, slots)
		p.Kids = append(p.Kids, k)
	}
	return p, slots
}

// Main is how many functions of a program are ahead of main.
func (p Part) Main() int {
	return slices.IndexFunc(p.Kids, func(f Part) bool { return f.Text == "main" })
}

// Params are the NParams of a function.
func (p Part) Params() []Part {
	return p.Kids[:len(p.Kids)-1]
}

// Body is the block of a function or of an NFor, which stands behind all else.
func (p Part) Body() Part {
	return p.Kids[len(p.Kids)-1]
}
