package value_test

import (
	"math"
	"strings"
	"testing"

	"packtrail/api"
	"packtrail/value"
)

func num(n int64) api.Value   { return api.Value{Kind: api.VInt, N: n} }
func text(s string) api.Value { return api.Value{Kind: api.VText, S: s} }
func tab(n int64) api.Value   { return api.Value{Kind: api.VTable, N: n} }
func fun(n int64) api.Value   { return api.Value{Kind: api.VFun, N: n} }

func boolean(b bool) api.Value {
	if b {
		return api.Value{Kind: api.VBool, N: 1}
	}
	return api.Value{Kind: api.VBool}
}

// longest is a text of as many bytes as a value may have.
func longest() string { return strings.Repeat("m", api.MaxLong) }

// good has values that may be, of each kind, its edges among them.
func good() []api.Value {
	return []api.Value{
		{}, boolean(false), boolean(true),
		num(0), num(1), num(-1), num(7), num(math.MaxInt64), num(math.MinInt64), num(1 << 31),
		text(""), text("a"), text("0"), text("nil"), text("\x00\xff"), text(longest()),
		tab(0), tab(1), tab(math.MaxInt32), fun(0), fun(1), fun(math.MaxInt32),
	}
}

// bad has values that may not be, each by one field.
func bad() []api.Value {
	return []api.Value{
		{Kind: api.VNil, N: 1}, {Kind: api.VNil, N: -1}, {Kind: api.VNil, S: "a"},
		{Kind: api.VBool, N: 2}, {Kind: api.VBool, N: -1}, {Kind: api.VBool, N: 1, S: "a"}, {Kind: api.VBool, S: "a"},
		{Kind: api.VBool, N: math.MaxInt64}, {Kind: api.VBool, N: 1 << 32},
		{Kind: api.VInt, S: "a"}, {Kind: api.VInt, N: 5, S: "5"},
		{Kind: api.VText, N: 1}, {Kind: api.VText, N: -1, S: "a"}, {Kind: api.VText, S: longest() + "m"},
		{Kind: api.VTable, N: -1}, {Kind: api.VTable, N: 1 << 31}, {Kind: api.VTable, S: "a"},
		{Kind: api.VTable, N: math.MinInt64}, {Kind: api.VTable, N: math.MaxInt64},
		{Kind: api.VFun, N: -1}, {Kind: api.VFun, N: 1 << 31}, {Kind: api.VFun, S: "a"},
		{Kind: api.VFun, N: math.MinInt64}, {Kind: api.VFun, N: math.MaxInt64},
		{Kind: -1}, {Kind: 6}, {Kind: math.MaxInt}, {Kind: math.MinInt},
	}
}

// A1: which values may be.
func TestMay(t *testing.T) {
	for _, v := range good() {
		if !value.May(v) {
			t.Errorf("May(%v) is false", v)
		}
	}
	for _, v := range bad() {
		if value.May(v) {
			t.Errorf("May(%v) is true", v)
		}
	}
}

// A1: two values are the same, if all three fields are.
func TestSame(t *testing.T) {
	vs := good()
	for i, a := range vs {
		for j, b := range vs {
			if v, e := value.Op(api.OpSame, a, b); v != boolean(i == j) || e != api.OK {
				t.Errorf("OpSame of %v and %v: %v, %v", a, b, v, e)
			}
		}
	}
}

// A2: nil, false and what may not be are taken for false, all else for true.
func TestTruth(t *testing.T) {
	for _, v := range good() {
		want := v != api.Value{} && v != boolean(false)
		if value.Truth(v) != want {
			t.Errorf("Truth(%v) is %v", v, !want)
		}
	}
	for _, v := range bad() {
		if value.Truth(v) {
			t.Errorf("Truth(%v) is true", v)
		}
	}
}

// A2: what is told of each kind.
func TestText(t *testing.T) {
	for _, c := range []struct {
		v    api.Value
		want string
	}{
		{api.Value{}, "nil"}, {boolean(true), "true"}, {boolean(false), "false"},
		{num(0), "0"}, {num(42), "42"}, {num(-42), "-42"}, {num(1000), "1000"},
		{num(math.MaxInt64), "9223372036854775807"}, {num(math.MinInt64), "-9223372036854775808"},
		{text(""), ""}, {text("a b"), "a b"}, {text("\x00\xff"), "\x00\xff"}, {text(longest()), longest()},
		{tab(0), "table"}, {tab(9), "table"}, {fun(0), "function"}, {fun(9), "function"},
	} {
		if got := value.Text(c.v); got != c.want {
			t.Errorf("Text(%v): %q, want %q", c.v, got, c.want)
		}
	}
	for _, v := range bad() {
		if got := value.Text(v); got != "" {
			t.Errorf("Text(%v): %q, want none", v, got)
		}
	}
}
