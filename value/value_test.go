package value_test

import (
	"math"
	"testing"

	"packtrail/api"
	"packtrail/sample"
	"packtrail/value"
)

// Short names for what the tests try most.
var (
	num, text, tab, fun, boolean = sample.Num, sample.Text, sample.Tab, sample.Fun, sample.Bool
	longest, good, bad           = sample.Longest, sample.Good, sample.Bad
)

// A1: which values may be.
func TestMay(t *testing.T) {
	for _, v := range good() {
		if !value.May(v) {
			t.Errorf("May(%v) is false", v)
		}
	}
	for _, v := range bad() {
		if value.May(v) {
			t.Errorf("May(%v) is true", v)
		}
	}
}

// A1: two values are the same, if all three fields are.
func TestSame(t *testing.T) {
	vs := good()
	for i, a := range vs {
		for j, b := range vs {
			if v, e := value.Op(api.OpSame, a, b); v != boolean(i == j) || e != api.OK {
				t.Errorf("OpSame of %v and %v: %v, %v", a, b, v, e)
			}
		}
	}
}

// A2: nil, false and what may not be are taken for false, all else for true.
func TestTruth(t *testing.T) {
	for _, v := range good() {
		want := v != api.Value{} && v != boolean(false)
		if value.Truth(v) != want {
			t.Errorf("Truth(%v) is %v", v, !want)
		}
	}
	for _, v := range bad() {
		if value.Truth(v) {
			t.Errorf("Truth(%v) is true", v)
		}
	}
}

// A2: what is told of each kind.
func TestText(t *testing.T) {
	for _, c := range []struct {
		v    api.Value
		want string
	}{
		{api.Value{}, "nil"}, {boolean(true), "true"}, {boolean(false), "false"},
		{num(0), "0"}, {num(42), "42"}, {num(-42), "-42"}, {num(1000), "1000"},
		{num(math.MaxInt64), "9223372036854775807"}, {num(math.MinInt64), "-9223372036854775808"},
		{text(""), ""}, {text("a b"), "a b"}, {text("\x00\xff"), "\x00\xff"}, {text(longest()), longest()},
		{tab(0), "table"}, {tab(9), "table"}, {fun(0), "function"}, {fun(9), "function"},
	} {
		if got := value.Text(c.v); got != c.want {
			t.Errorf("Text(%v): %q, want %q", c.v, got, c.want)
		}
	}
	for _, v := range bad() {
		if got := value.Text(v); got != "" {
			t.Errorf("Text(%v): %q, want none", v, got)
		}
	}
}
