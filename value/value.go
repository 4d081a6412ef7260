// Package value says what values are: which may be, what they are taken for, and what operations make of them (doc/01-value.md).
package value

import (
	"math"
	"slices"
	"strconv"

	"packtrail/api"
)

// May tells whether a value may be (A1).
func May(v api.Value) bool {
	is := each(v)
	switch {
	case is(api.VText):
		return v.N == 0 && len(v.S) <= api.MaxLong
	case v.S != "":
		return false
	case is(api.VNil):
		return v.N == 0
	case is(api.VBool):
		return v.N == 0 || v.N == 1
	case is(api.VTable, api.VFun):
		return v.N >= 0 && v.N <= math.MaxInt32
	}
	return is(api.VInt)
}

// Truth tells what a value is taken for where a condition stands (A2).
func Truth(v api.Value) bool {
	return May(v) && !each(v)(api.VNil) && v != Boolean(false)
}

// Text is what is told of a value (A2).
func Text(v api.Value) string {
	if !May(v) {
		return ""
	}
	switch v.Kind {
	case api.VNil:
		return "nil"
	case api.VBool:
		return strconv.FormatBool(v.N == 1)
	case api.VInt:
		return strconv.FormatInt(v.N, 10)
	case api.VTable:
		return "table"
	case api.VFun:
		return "function"
	}
	return v.S
}

// each makes a question of values: whether every one of them is of one of the kinds.
func each(vs ...api.Value) func(kinds ...int) bool {
	return func(kinds ...int) bool {
		for _, v := range vs {
			if !slices.Contains(kinds, v.Kind) {
				return false
			}
		}
		return true
	}
}

// Boolean is the value true or false.
func Boolean(holds bool) api.Value {
	if holds {
		return api.Value{Kind: api.VBool, N: 1}
	}
	return api.Value{Kind: api.VBool}
}

// Number is the value of a number.
func Number(n int64) api.Value {
	return api.Value{Kind: api.VInt, N: n}
}
