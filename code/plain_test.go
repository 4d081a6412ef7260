package code_test

import (
	"math"
	"slices"
	"strings"
	"testing"

	"packtrail/api"
	"packtrail/code"
	"packtrail/sample"
	"packtrail/value"
)

// table is the document's, of each order what its fields are: r a register, k a constant's number, o an order's number, b one not above its own, n how many arguments, - nothing.
var table = rows()

func rows() (list [32]string) {
	list = [32]string{
		1: "rr-", 2: "rk-", 3: "r--", 4: "rrr", 5: "rrr", 6: "rr-", 7: "rrr",
		8: "o--", 9: "ro-", 10: "b--", 11: "rrn", 12: "r--", 13: "r--", 30: "rr-", 31: "rr-",
	}
	for op := 21; op <= 29; op++ {
		list[op] = "rrr"
	}
	return list
}

// plain is May, with orders by the letters of the table.
func plain(p api.Code) bool {
	mains := 0
	for i, f := range p.Funs {
		if i == p.Main && f.Params == 0 {
			mains++
		}
		if !plainFun(f, len(p.Funs)) {
			return false
		}
	}
	return mains == 1 && len(p.Funs) <= 12
}

func plainFun(f api.Fn, funs int) bool {
	if f.Params < 0 || f.Params > 5 || f.Regs < 1 || f.Regs > 250 || f.Regs < f.Params || len(f.Consts) > 700 || len(f.Code) > 3000 {
		return false
	}
	for _, v := range f.Consts {
		if !value.May(v) || v.Kind == api.VTable || v.Kind == api.VFun && v.N >= int64(funs) {
			return false
		}
	}
	last := 0
	for at, o := range f.Code {
		if o.Op < 0 || o.Op >= len(table) || table[o.Op] == "" {
			return false
		}
		row := table[o.Op]
		if !plainField(f, at, o, row[0], o.A) || !plainField(f, at, o, row[1], o.B) || !plainField(f, at, o, row[2], o.C) {
			return false
		}
		last = o.Op
	}
	return last == 8 || last == 10 || last == 12
}

func plainField(f api.Fn, at int, o api.Instr, letter byte, n int) bool {
	ends := [...]int{1, f.Regs, len(f.Consts), len(f.Code), at + 1, min(6, f.Regs-o.B)}
	return n >= 0 && n < ends[strings.IndexByte("-rkobn", letter)]
}

// agrees holds May against plain.
func agrees(t *testing.T, p api.Code) {
	t.Helper()
	if got, want := code.May(p), plain(p); got != want {
		t.Fatalf("May(%v): %v, want %v", p, got, want)
	}
}

// G1, G2: every order, and numbers that are none, with every number near an edge in each field, at every place but the last one.
func TestEachField(t *testing.T) {
	tried := []int{math.MinInt, math.MinInt + 1, -5, -2, -1, 0, 1, 2, 3, 4, 5, 6, 7, 8, 9, math.MaxInt - 5, math.MaxInt - 1, math.MaxInt}
	for _, regs := range []int{1, 4, 8} {
		f := api.Fn{Regs: regs, Consts: make([]api.Value, 3), Code: []api.Instr{{Op: api.CNew}, {}, {Op: api.CNew}, {Op: api.CReturn}}}
		p := api.Code{Funs: []api.Fn{f}}
		for op := -1; op <= 43; op++ {
			for _, a := range tried {
				for _, b := range tried {
					for _, c := range tried {
						f.Code[1] = api.Instr{Op: op, A: a, B: b, C: c}
						agrees(t, p)
					}
				}
			}
		}
	}
}

// G1, G2: programs by a fixed rule may be; with any one number changed, they may be as the table says.
func TestByRule(t *testing.T) {
	for number := range 1500 {
		p := sample.Code(number)
		if !code.May(p) || !plain(p) {
			t.Fatalf("May(%v): %v, plainly %v", p, code.May(p), plain(p))
		}
		for _, n := range numbers(&p) {
			was := *n
			for _, other := range []int{math.MinInt, -1, was - 1, was + 1, was + 3, 40, math.MaxInt} {
				*n = other
				agrees(t, p)
			}
			*n = was
		}
	}
}

// numbers are the places of all numbers of a program.
func numbers(p *api.Code) []*int {
	list := []*int{&p.Main}
	for i := range p.Funs {
		f := &p.Funs[i]
		list = append(list, &f.Params, &f.Regs)
		for j := range f.Code {
			o := &f.Code[j]
			list = append(list, &o.Op, &o.A, &o.B, &o.C)
		}
	}
	return list
}

// read makes a program of bytes, most of them small numbers.
func read(b []byte) api.Code {
	next := func() int {
		if len(b) == 0 {
			return 0
		}
		n := int(int8(b[0]))
		b = b[1:]
		if n == -128 {
			return math.MinInt
		}
		return n
	}
	p := api.Code{Main: next()}
	for range next() & 15 {
		f := api.Fn{Params: next(), Regs: next()}
		for range next() & 7 {
			f.Consts = append(f.Consts, api.Value{Kind: next(), N: int64(next())})
		}
		for range next() & 15 {
			f.Code = append(f.Code, api.Instr{Op: next(), A: next(), B: next(), C: next()})
		}
		p.Funs = append(p.Funs, f)
	}
	return p
}

func FuzzMay(f *testing.F) {
	f.Add([]byte{0, 1, 0, 2, 1, 2, 7, 2, 2, 1, 0, 0, 12, 1, 0, 0}, 0)
	f.Add([]byte{1, 2, 1, 3, 2, 5, 1, 3, 1, 3, 11, 0, 1, 1, 9, 1, 2, 0, 10, 2, 0, 0, 0, 1, 0, 1, 8, 0, 0, 0}, 5)
	f.Fuzz(func(t *testing.T, b []byte, number int) {
		agrees(t, read(b))
		p := sample.Code(number)
		for i, n := range b {
			list := numbers(&p)
			*list[(i*31+number&1023)%len(list)] = int(int8(n))
			agrees(t, p)
		}
	})
}

// P3: what is handed in stays as it is, and what lies behind a list's length is not read.
func TestNothingChanged(t *testing.T) {
	for number := range 100 {
		p, same := sample.Code(number), sample.Code(number)
		for i := range p.Funs {
			f := &p.Funs[i]
			f.Code = append(f.Code, api.Instr{Op: 99})[:len(f.Code)]
			f.Consts = append(f.Consts, api.Value{Kind: 99})[:len(f.Consts)]
		}
		p.Funs = append(p.Funs, api.Fn{})[:len(p.Funs)]
		if !code.May(p) {
			t.Fatal("what lies behind is read", number)
		}
		for i, f := range same.Funs {
			g := p.Funs[i]
			behind, last := g.Code[:len(g.Code)+1], g.Consts[:len(g.Consts)+1]
			if f.Params != g.Params || f.Regs != g.Regs || !slices.Equal(f.Code, g.Code) || !slices.Equal(f.Consts, g.Consts) ||
				behind[len(g.Code)].Op != 99 || last[len(g.Consts)].Kind != 99 {
				t.Fatal("changed", number)
			}
		}
	}
}
