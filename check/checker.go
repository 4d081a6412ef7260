package check

import (
	"slices"

	"packtrail/api"
)

// checker goes over the nodes of the program that it embeds, from the left, and gives up by panic at the first fault.
type checker struct {
	api.Node
	funs   map[string]int     // by name: how many functions are ahead of the first one that has it
	slots  []int              // of the nodes up to here, by number
	blocks []map[string]local // the locals of the blocks that go on, the innermost one last
	live   int                // how many locals are there
}

// local is what a name is within a block.
type local struct {
	slot  int
	fixed bool // it counts an NFor's rounds: nobody else may set it
}

// newChecker knows all functions ahead: a name may be that of one behind it.
func newChecker(n api.Node) *checker {
	c := &checker{Node: n, funs: map[string]int{}}
	for ahead, f := range c.Kids {
		if _, ok := c.funs[f.Text]; !ok {
			c.funs[f.Text] = ahead
		}
	}
	return c
}

// enter gives the next node its number.
func (c *checker) enter() int {
	c.slots = append(c.slots, -1)
	return len(c.slots) - 1
}

// refuse throws the fault of a node that is wrong.
func (c *checker) refuse(wrong bool, code api.Errno, at int) {
	if wrong {
		panic(api.Fault{Code: code, At: at})
	}
}

func (c *checker) unit() {
	at := c.enter()
	for ahead, f := range c.Kids {
		c.fun(f, ahead)
	}
	main, ok := c.funs["main"]
	c.refuse(!ok, api.ErrName, at)
	c.refuse(len(params(c.Kids[main])) > 0, api.ErrRange, at)
}

func (c *checker) fun(n api.Node, ahead int) {
	at := c.enter()
	c.refuse(c.funs[n.Text] < ahead, api.ErrTwice, at)
	c.refuse(ahead >= api.MaxFuns || len(params(n)) > api.MaxParams, api.ErrSize, at)
	c.begin()
	c.all(params(n))
	c.inside(body(n))
	c.end()
}

// all goes over nodes that stand side by side.
func (c *checker) all(nodes []api.Node) {
	for _, n := range nodes {
		c.visit(n)
	}
}

// visit goes over a node that is in a function, but for the block that has the function's parameters or an NFor's variable.
func (c *checker) visit(n api.Node) {
	switch n.Kind {
	case api.NFor:
		c.count(n)
		return
	case api.NBlock:
		c.begin()
		c.inside(n)
		c.end()
		return
	}
	at := c.enter()
	c.all(n.Kids)
	switch n.Kind {
	case api.NParam, api.NLocal:
		c.declare(n.Text, false, at)
	case api.NName:
		c.name(n.Text, at)
	case api.NSet:
		c.refuse(!c.maySet(n.Kids[0]), api.ErrKind, at)
	case api.NCall:
		c.refuse(len(n.Kids)-1 > api.MaxParams, api.ErrSize, at)
	}
}

// count goes over an NFor, whose variable is not there in its expressions.
func (c *checker) count(n api.Node) {
	at := c.enter()
	c.all(n.Kids[:2])
	c.begin()
	c.declare(n.Text, true, at)
	c.inside(body(n))
	c.end()
}

// inside goes over a block whose locals have a place already.
func (c *checker) inside(block api.Node) {
	c.enter()
	c.all(block.Kids)
}

// begin makes a place for a block's locals.
func (c *checker) begin() {
	c.blocks = append(c.blocks, map[string]local{})
}

// end takes the innermost block's locals away.
func (c *checker) end() {
	last := len(c.blocks) - 1
	c.live -= len(c.blocks[last])
	c.blocks = c.blocks[:last]
}

// declare makes a local of the innermost block for the node at a number.
func (c *checker) declare(name string, fixed bool, at int) {
	block := c.blocks[len(c.blocks)-1]
	_, twice := block[name]
	c.refuse(twice, api.ErrTwice, at)
	c.refuse(c.live >= api.MaxLocals, api.ErrSize, at)
	block[name] = local{c.live, fixed}
	c.slots[at] = c.live
	c.live++
}

// name says what the NName at a number is.
func (c *checker) name(name string, at int) {
	if l, ok := c.find(name); ok {
		c.slots[at] = l.slot
		return
	}
	ahead, ok := c.funs[name]
	c.refuse(!ok, api.ErrName, at)
	c.slots[at] = api.MaxLocals + ahead
}

// find gives the innermost local of a name, if there is one.
func (c *checker) find(name string) (local, bool) {
	for _, block := range slices.Backward(c.blocks) {
		if l, ok := block[name]; ok {
			return l, true
		}
	}
	return local{}, false
}

// maySet tells whether a place may be set: of names only those of locals that count no rounds.
func (c *checker) maySet(place api.Node) bool {
	l, ok := c.find(place.Text)
	return place.Kind != api.NName || ok && !l.fixed
}

// params are the NParams of a function.
func params(fun api.Node) []api.Node {
	return fun.Kids[:len(fun.Kids)-1]
}

// body is the block of a function or of an NFor, which stands behind all else.
func body(n api.Node) api.Node {
	return n.Kids[len(n.Kids)-1]
}
