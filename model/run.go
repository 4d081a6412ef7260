package model

import (
	"strings"

	"packtrail/api"
	"packtrail/check"
	"packtrail/table"
	"packtrail/value"
)

// run is a program at work: it embeds what it shows.
type run struct {
	api.Shown
	program check.Part
	fuel    int
	calls   int         // how many have not come back
	tables  []api.Table // by their numbers
}

// ended is thrown where the whole run ends ahead of main's call.
type ended struct {
	end  int
	code api.Errno
}

// returned is thrown where a function's call ends ahead of its block.
type returned struct{ answer api.Value }

// begin calls main, and sees to how the run ends.
func (r *run) begin() {
	defer func() {
		switch x := recover().(type) {
		case nil:
		case ended:
			r.End, r.Err = x.end, x.code
		default:
			panic(x)
		}
	}()
	answer := r.call(function(r.program.Main()), nil)
	r.End, r.Last = api.EndDone, told(answer)
}

// step counts one, or ends the run, if it may not go on.
func (r *run) step() {
	if r.Steps == r.fuel {
		panic(ended{end: api.EndFuel})
	}
	r.Steps++
}

// need ends the run, unless all is well.
func (r *run) need(code api.Errno) {
	if code != api.OK {
		panic(ended{api.EndFailed, code})
	}
}

// refuse ends the run, if something is wrong.
func (r *run) refuse(wrong bool, code api.Errno) {
	if wrong {
		r.need(code)
	}
}

// call does a function's block, and gives what it answers: nil, if it returns nothing.
func (r *run) call(f api.Value, args []api.Value) (answer api.Value) {
	r.refuse(f.Kind != api.VFun, api.ErrKind)
	r.refuse(r.calls == api.MaxCalls, api.ErrSize)
	r.calls++
	defer func() {
		r.calls--
		switch x := recover().(type) {
		case nil:
		case returned:
			answer = x.answer
		default:
			panic(x)
		}
	}()
	fun := r.program.Kids[f.N]
	c := &call{run: r}
	copy(c.locals[:len(fun.Params())], args)
	c.block(fun.Body())
	return api.Value{}
}

// newTable makes an empty table, behind all others.
func (r *run) newTable() api.Value {
	r.refuse(len(r.tables) == api.MaxTables, api.ErrSize)
	r.tables = append(r.tables, api.Table{})
	return api.Value{Kind: api.VTable, N: int64(len(r.tables) - 1)}
}

// table is the one that a value is, as it is now.
func (r *run) table(v api.Value) *api.Table {
	r.refuse(v.Kind != api.VTable, api.ErrKind)
	return &r.tables[v.N]
}

// length is how many bytes a text has, or how far a table goes.
func (r *run) length(v api.Value) int {
	if v.Kind == api.VText {
		return len(v.S)
	}
	return table.Len(*r.table(v))
}

// function is the value of the function behind so many others.
func function(ahead int) api.Value {
	return api.Value{Kind: api.VFun, N: int64(ahead)}
}

// told is what is shown of a value; it shares no memory with the program, nor with what else is shown.
func told(v api.Value) string {
	return strings.Clone(value.Text(v))
}
