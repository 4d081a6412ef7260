// Package sample has values for tests to try, of each kind those that may be, and those that may not (A1), programs, in texts and in orders, states of these, rounds, and traces.
package sample

import (
	"math"
	"strings"

	"packtrail/api"
)

// Num is a number.
func Num(n int64) api.Value { return api.Value{Kind: api.VInt, N: n} }

// Text is a text.
func Text(s string) api.Value { return api.Value{Kind: api.VText, S: s} }

// Tab is the table of a number.
func Tab(n int64) api.Value { return api.Value{Kind: api.VTable, N: n} }

// Fun is the function of a number.
func Fun(n int64) api.Value { return api.Value{Kind: api.VFun, N: n} }

// Bool is true or false.
func Bool(b bool) api.Value {
	if b {
		return api.Value{Kind: api.VBool, N: 1}
	}
	return api.Value{Kind: api.VBool}
}

// Longest is a text of as many bytes as a value may have.
func Longest() string { return strings.Repeat("m", api.MaxLong) }

// Good has values that may be, of each kind, its edges among them; no two are the same, nil is the first.
func Good() []api.Value {
	return []api.Value{
		{}, Bool(false), Bool(true),
		Num(0), Num(1), Num(-1), Num(7), Num(math.MaxInt64), Num(math.MinInt64), Num(1 << 31),
		Text(""), Text("a"), Text("0"), Text("nil"), Text("\x00\xff"), Text(Longest()),
		Tab(0), Tab(1), Tab(math.MaxInt32), Fun(0), Fun(1), Fun(math.MaxInt32),
	}
}

// Bad has values that may not be, each by one field.
func Bad() []api.Value {
	return []api.Value{
		{Kind: api.VNil, N: 1}, {Kind: api.VNil, N: -1}, {Kind: api.VNil, S: "a"},
		{Kind: api.VBool, N: 2}, {Kind: api.VBool, N: -1}, {Kind: api.VBool, N: 1, S: "a"}, {Kind: api.VBool, S: "a"},
		{Kind: api.VBool, N: math.MaxInt64}, {Kind: api.VBool, N: 1 << 32},
		{Kind: api.VInt, S: "a"}, {Kind: api.VInt, N: 5, S: "5"},
		{Kind: api.VText, N: 1}, {Kind: api.VText, N: -1, S: "a"}, {Kind: api.VText, S: Longest() + "m"},
		{Kind: api.VTable, N: -1}, {Kind: api.VTable, N: 1 << 31}, {Kind: api.VTable, S: "a"},
		{Kind: api.VTable, N: math.MinInt64}, {Kind: api.VTable, N: math.MaxInt64},
		{Kind: api.VFun, N: -1}, {Kind: api.VFun, N: 1 << 31}, {Kind: api.VFun, S: "a"},
		{Kind: api.VFun, N: math.MinInt64}, {Kind: api.VFun, N: math.MaxInt64},
		{Kind: -1}, {Kind: 6}, {Kind: math.MaxInt}, {Kind: math.MinInt},
	}
}
