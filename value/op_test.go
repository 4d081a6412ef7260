package value_test

import (
	"bytes"
	"math"
	"math/big"
	"strings"
	"testing"

	"packtrail/api"
	"packtrail/value"
)

// answers asks for an operation, and holds its answer against what is wanted; where an error is wanted, the value must be zero (P2).
func answers(t *testing.T, op int, a, b, want api.Value, wantErr api.Errno) {
	t.Helper()
	if v, e := value.Op(op, a, b); v != want || e != wantErr {
		t.Errorf("Op(%d, %v, %v): %v, %v; want %v, %v", op, a, b, v, e, want, wantErr)
	}
}

func fails(t *testing.T, op int, a, b api.Value, want api.Errno) {
	t.Helper()
	answers(t, op, a, b, api.Value{}, want)
}

func isInt(v api.Value) bool { return v.Kind == api.VInt }

func isText(v api.Value) bool { return v.Kind == api.VText }

// A3: no other operation, and of no value that may not be, whatever else is wrong.
func TestOpForm(t *testing.T) {
	for _, op := range []int{math.MinInt, -1, 0, 12, api.OpAnd, api.OpOr, math.MaxInt} {
		for _, v := range append(good(), bad()...) {
			fails(t, op, v, num(0), api.ErrForm)
			fails(t, op, num(1), v, api.ErrForm)
		}
	}
	for op := api.OpAdd; op <= api.OpNeg; op++ {
		for _, w := range bad() {
			for _, v := range append(good(), bad()...) {
				fails(t, op, w, v, api.ErrForm)
				fails(t, op, v, w, api.ErrForm)
			}
		}
	}
}

// A3: OpNot turns Truth round; its second value counts for nothing.
func TestOpNot(t *testing.T) {
	for _, a := range good() {
		for _, b := range good() {
			answers(t, api.OpNot, a, b, boolean(!value.Truth(a)), api.OK)
		}
	}
	answers(t, api.OpNot, num(0), api.Value{}, boolean(false), api.OK)
	answers(t, api.OpNot, text(""), api.Value{}, boolean(false), api.OK)
}

// A3: OpNeg is of numbers alone; its second value counts for nothing.
func TestOpNeg(t *testing.T) {
	for _, b := range good() {
		answers(t, api.OpNeg, num(5), b, num(-5), api.OK)
		answers(t, api.OpNeg, num(-5), b, num(5), api.OK)
		answers(t, api.OpNeg, num(0), b, num(0), api.OK)
		answers(t, api.OpNeg, num(math.MaxInt64), b, num(-math.MaxInt64), api.OK)
		answers(t, api.OpNeg, num(math.MinInt64), b, num(math.MinInt64), api.OK)
	}
	for _, a := range good() {
		if !isInt(a) {
			fails(t, api.OpNeg, a, num(1), api.ErrKind)
		}
	}
}

// A3: numbers are ordered as such, texts byte by byte.
func TestOpOrder(t *testing.T) {
	rows := [][]api.Value{
		{num(math.MinInt64), num(-10), num(-9), num(0), num(9), num(10), num(math.MaxInt64)},
		{text(""), text("\x00"), text("-9"), text("10"), text("9"), text("A"), text("a"), text("a\x00"), text("aa"), text("ab"), text("b"), text(longest()), text("\x7f"), text("\xc3\xa9"), text("\xff")},
	}
	for _, row := range rows {
		for i, a := range row {
			for j, b := range row {
				answers(t, api.OpLess, a, b, boolean(i < j), api.OK)
				answers(t, api.OpMost, a, b, boolean(i <= j), api.OK)
			}
		}
	}
}

// A3: nothing else is ordered, not even one kind against itself.
func TestOpOrderKinds(t *testing.T) {
	for _, a := range good() {
		for _, b := range good() {
			if isInt(a) && isInt(b) || isText(a) && isText(b) {
				continue
			}
			fails(t, api.OpLess, a, b, api.ErrKind)
			fails(t, api.OpMost, a, b, api.ErrKind)
		}
	}
}

// A3: texts and numbers are put one behind the other.
func TestOpCat(t *testing.T) {
	for _, c := range []struct {
		a, b api.Value
		want string
	}{
		{text("a"), text("b"), "ab"}, {text("a"), num(1), "a1"}, {num(1), text("a"), "1a"},
		{num(1), num(-2), "1-2"}, {num(0), num(0), "00"}, {text(""), text(""), ""},
		{num(math.MinInt64), text(""), "-9223372036854775808"},
		{text(longest()), text(""), longest()}, {text(""), text(longest()), longest()},
		{text(longest()[20:]), num(math.MinInt64), longest()[20:] + "-9223372036854775808"},
	} {
		answers(t, api.OpCat, c.a, c.b, text(c.want), api.OK)
	}
	fails(t, api.OpCat, text(longest()), text("b"), api.ErrSize)
	fails(t, api.OpCat, num(0), text(longest()), api.ErrSize)
	fails(t, api.OpCat, text(longest()[19:]), num(math.MinInt64), api.ErrSize)
	fails(t, api.OpCat, text(longest()), text(longest()), api.ErrSize)
}

// A3: other kinds are not, also where the text would be too long.
func TestOpCatKinds(t *testing.T) {
	for _, a := range good() {
		if isInt(a) || isText(a) {
			continue
		}
		for _, b := range good() {
			fails(t, api.OpCat, a, b, api.ErrKind)
			fails(t, api.OpCat, b, a, api.ErrKind)
		}
	}
}

// A3: the document's own examples of division, and their neighbours.
func TestOpDivide(t *testing.T) {
	for _, c := range []struct{ a, b, div, mod int64 }{
		{-7, 2, -4, 1}, {7, -2, -4, -1}, {7, 2, 3, 1}, {-7, -2, 3, -1},
		{6, 3, 2, 0}, {-6, 3, -2, 0}, {6, -3, -2, 0}, {-6, -3, 2, 0},
		{0, 5, 0, 0}, {0, -5, 0, 0}, {1, 5, 0, 1}, {-1, 5, -1, 4}, {1, -5, -1, -4},
		{math.MinInt64, -1, math.MinInt64, 0}, {math.MinInt64, 1, math.MinInt64, 0},
		{math.MaxInt64, math.MinInt64, -1, -1}, {math.MinInt64, math.MaxInt64, -2, math.MaxInt64 - 1},
	} {
		answers(t, api.OpDiv, num(c.a), num(c.b), num(c.div), api.OK)
		answers(t, api.OpMod, num(c.a), num(c.b), num(c.mod), api.OK)
	}
	for _, a := range []int64{0, 1, -1, math.MaxInt64, math.MinInt64} {
		fails(t, api.OpDiv, num(a), num(0), api.ErrZero)
		fails(t, api.OpMod, num(a), num(0), api.ErrZero)
	}
}

// A3: reckoning is of two numbers; that is told ahead of a division by nought.
func TestOpReckonKinds(t *testing.T) {
	for op := api.OpAdd; op <= api.OpMod; op++ {
		for _, a := range good() {
			if isInt(a) {
				continue
			}
			for _, b := range good() {
				fails(t, op, a, b, api.ErrKind)
				fails(t, op, b, a, api.ErrKind)
			}
		}
	}
}

// low64 is what 64 bits keep of a number.
func low64(n *big.Int) int64 {
	m := new(big.Int).And(n, new(big.Int).SetUint64(math.MaxUint64))
	return int64(m.Uint64())
}

// floor is a divided by b, rounded down, with no bound to how great it is.
func floor(a, b *big.Int) *big.Int {
	q, m := new(big.Int).QuoRem(a, b, new(big.Int))
	if m.Sign() != 0 && m.Sign() != b.Sign() {
		q.Sub(q, big.NewInt(1))
	}
	return q
}

// A3: held against reckoning without bounds, at numbers around each edge.
func TestOpReckon(t *testing.T) {
	var ns []int64
	for _, mid := range []int64{0, 10, -10, 1 << 31, -1 << 31, 1 << 32, 3037000500, -3037000500, math.MaxInt64, math.MinInt64, math.MaxInt64 / 2, math.MinInt64 / 2} {
		for d := int64(-3); d <= 3; d++ {
			ns = append(ns, mid+d)
		}
	}
	for _, m := range ns {
		for _, n := range ns {
			a, b := big.NewInt(m), big.NewInt(n)
			answers(t, api.OpAdd, num(m), num(n), num(low64(new(big.Int).Add(a, b))), api.OK)
			answers(t, api.OpSub, num(m), num(n), num(low64(new(big.Int).Sub(a, b))), api.OK)
			answers(t, api.OpMul, num(m), num(n), num(low64(new(big.Int).Mul(a, b))), api.OK)
			if n == 0 {
				continue
			}
			q := floor(a, b)
			answers(t, api.OpDiv, num(m), num(n), num(low64(q)), api.OK)
			answers(t, api.OpMod, num(m), num(n), num(low64(new(big.Int).Sub(a, q.Mul(q, b)))), api.OK)
		}
	}
}

// P1, P2: at any operation and any fields no call panics; an answer without an error may be, one with an error is zero.
func FuzzOp(f *testing.F) {
	for op := 0; op <= 12; op++ {
		f.Add(op, api.VInt, int64(-7), "", api.VInt, int64(2), "")
		f.Add(op, api.VText, int64(0), "a", api.VText, int64(0), "ab")
		f.Add(op, api.VBool, int64(1), "", api.VTable, int64(3), "")
		f.Add(op, api.VText, int64(0), strings.Repeat("m", api.MaxLong+1), api.VFun, int64(-1), "")
	}
	f.Fuzz(func(t *testing.T, op, ak int, an int64, as string, bk int, bn int64, bs string) {
		a, b := api.Value{Kind: ak, N: an, S: as}, api.Value{Kind: bk, N: bn, S: bs}
		v, e := value.Op(op, a, b)
		if e != api.OK && v != (api.Value{}) || !value.May(v) {
			t.Errorf("Op(%d, %v, %v): %v, %v", op, a, b, v, e)
		}
		if !value.May(a) && (value.Truth(a) || value.Text(a) != "" || e != api.ErrForm) {
			t.Errorf("%v may not be, but something is said of it", a)
		}
		if op == api.OpLess && e == api.OK && isText(a) && (v.N == 1) != (bytes.Compare([]byte(as), []byte(bs)) < 0) {
			t.Errorf("OpLess of %q and %q: %v", as, bs, v)
		}
	})
}
