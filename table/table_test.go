package table_test

import (
	"math"
	"slices"
	"testing"

	"packtrail/api"
	"packtrail/sample"
	"packtrail/table"
)

// Short names for what the tests try most.
var (
	num, text, tab = sample.Num, sample.Text, sample.Tab
	good, bad      = sample.Good, sample.Bad
	null           api.Value
)

// of makes a table of pairs: a key, what stands under it, and so on.
func of(vs ...api.Value) api.Table {
	var t api.Table
	for i := 0; i < len(vs); i += 2 {
		t.Keys = append(t.Keys, vs[i])
		t.Vals = append(t.Vals, vs[i+1])
	}
	return t
}

// row is a table with each number from 1 to n under itself.
func row(n int) api.Table {
	var t api.Table
	for i := range n {
		t.Keys = append(t.Keys, num(int64(i)+1))
		t.Vals = append(t.Vals, num(int64(i)+1))
	}
	return t
}

// mixed is a table with keys of every kind, each of them under the key ahead of it.
func mixed() api.Table {
	t := api.Table{Keys: good()[1:]}
	t.Vals = append(t.Keys[1:len(t.Keys):len(t.Keys)], t.Keys[0])
	return t
}

func copied(t api.Table) api.Table {
	return api.Table{Keys: slices.Clone(t.Keys), Vals: slices.Clone(t.Vals)}
}

func same(t, u api.Table) bool {
	return slices.Equal(t.Keys, u.Keys) && slices.Equal(t.Vals, u.Vals)
}

// mayBe has tables that may be.
func mayBe() []api.Table {
	return []api.Table{
		{}, {Keys: []api.Value{}, Vals: []api.Value{}},
		of(num(1), text("x")), of(text("a"), num(1), text("b"), num(1)),
		of(num(2), num(1), num(1), num(2)), of(tab(0), tab(0)), of(num(0), text("")),
		row(api.MaxKeys - 1), row(api.MaxKeys), mixed(),
	}
}

// mayNotBe has tables that may not be, each by one thing.
func mayNotBe() []api.Table {
	one := []api.Value{num(1)}
	ts := []api.Table{
		{Keys: one}, {Vals: one}, {Keys: row(3).Keys, Vals: row(2).Vals}, {Keys: row(2).Keys, Vals: row(3).Vals},
		{Keys: row(api.MaxKeys).Keys, Vals: row(api.MaxKeys + 1).Vals},
		row(api.MaxKeys + 1), row(1000),
		of(null, num(1)), of(num(1), null), of(num(1), num(1), null, num(2)), of(num(1), num(1), num(2), null),
		of(num(1), num(1), num(1), num(2)), of(num(1), num(1), num(1), num(1)),
		of(text("a"), num(1), num(2), num(2), text("a"), num(3)),
	}
	full := row(api.MaxKeys)
	full.Keys[api.MaxKeys-1] = num(1)
	ts = append(ts, full)
	for _, v := range bad() {
		ts = append(ts, of(v, num(1)), of(num(1), v), of(num(1), num(1), v, num(2)), of(num(1), num(1), num(2), v))
	}
	return ts
}

// B1: which tables may be.
func TestMay(t *testing.T) {
	for _, u := range mayBe() {
		if !table.May(u) {
			t.Fatalf("May(%v) is false", u)
		}
	}
	for _, u := range mayNotBe() {
		if table.May(u) {
			t.Fatalf("May(%v) is true", u)
		}
	}
}

// B1: keys are the same only if all of kind, number and text are; what stands under them counts for nothing.
func TestMayKeys(t *testing.T) {
	vs := good()[1:]
	for i, a := range vs {
		for j, b := range vs {
			if table.May(of(a, num(1), b, num(1))) != (i != j) {
				t.Fatalf("May of a table of the keys %v and %v: %v", a, b, i == j)
			}
		}
	}
}

// B2: what stands under a key is got; nil where nothing does.
func TestGet(t *testing.T) {
	for _, u := range mayBe() {
		for i, k := range u.Keys {
			if v := table.Get(u, k); v != u.Vals[i] {
				t.Fatalf("Get(%v, %v): %v", u, k, v)
			}
		}
		for _, k := range append(append(good(), bad()...), num(101), text("1"), text("none")) {
			if v := table.Get(u, k); !slices.Contains(u.Keys, k) && v != null {
				t.Fatalf("Get(%v, %v): %v", u, k, v)
			}
		}
	}
}

// B2: of a table that may not be all is nil, also what is there to be seen.
func TestGetNoTable(t *testing.T) {
	for _, u := range mayNotBe() {
		for _, k := range append(append(good(), bad()...), u.Keys...) {
			if v := table.Get(u, k); v != null {
				t.Fatalf("Get(%v, %v): %v", u, k, v)
			}
		}
	}
}

// sets asks for a Set, and holds its answer against what is wanted.
func sets(t *testing.T, u api.Table, k, v api.Value, want api.Table) {
	t.Helper()
	if got, e := table.Set(u, k, v); !same(got, want) || e != api.OK {
		t.Fatalf("Set(%v, %v, %v): %v, %v; want %v", u, k, v, got, e, want)
	}
}

// refuses asks for a Set that is wrong: its answer must be empty (P2).
func refuses(t *testing.T, u api.Table, k, v api.Value, want api.Errno) {
	t.Helper()
	if got, e := table.Set(u, k, v); len(got.Keys) != 0 || len(got.Vals) != 0 || e != want {
		t.Fatalf("Set(%v, %v, %v): %v, %v; want %v", u, k, v, got, e, want)
	}
}

// B2: in place of what stood there, behind all others, or without the key.
func TestSet(t *testing.T) {
	a, b, c, x := text("a"), text("b"), text("c"), num(9)
	u := of(a, num(1), b, num(2), c, num(3))
	sets(t, api.Table{}, a, x, of(a, x))
	sets(t, api.Table{}, a, null, api.Table{})
	sets(t, u, a, x, of(a, x, b, num(2), c, num(3)))
	sets(t, u, b, x, of(a, num(1), b, x, c, num(3)))
	sets(t, u, c, x, of(a, num(1), b, num(2), c, x))
	sets(t, u, b, num(2), u)
	sets(t, u, x, x, of(a, num(1), b, num(2), c, num(3), x, x))
	sets(t, u, a, null, of(b, num(2), c, num(3)))
	sets(t, u, b, null, of(a, num(1), c, num(3)))
	sets(t, u, c, null, of(a, num(1), b, num(2)))
	sets(t, u, x, null, u)
	sets(t, of(a, num(1)), a, null, api.Table{})
	sets(t, u, a, sample.Bool(false), of(a, sample.Bool(false), b, num(2), c, num(3)))
}

// B2: a full table takes no key more, but all else.
func TestSetFull(t *testing.T) {
	full, more := row(api.MaxKeys), num(api.MaxKeys+1)
	refuses(t, full, more, num(1), api.ErrSize)
	refuses(t, full, text("1"), text("x"), api.ErrSize)
	sets(t, row(api.MaxKeys-1), num(api.MaxKeys), num(api.MaxKeys), full)
	sets(t, full, more, null, full)
	sets(t, full, num(api.MaxKeys), null, row(api.MaxKeys-1))
	want := copied(full)
	want.Vals[0] = text("x")
	sets(t, full, num(1), text("x"), want)
}

// B2: what may not be is told first, a nil key next, a table that is full last.
func TestSetWrong(t *testing.T) {
	full := row(api.MaxKeys)
	for _, w := range bad() {
		for _, v := range append(good(), bad()...) {
			refuses(t, full, w, v, api.ErrForm)
			refuses(t, full, v, w, api.ErrForm)
			refuses(t, api.Table{}, w, v, api.ErrForm)
			refuses(t, api.Table{}, v, w, api.ErrForm)
		}
	}
	for _, u := range mayNotBe() {
		for _, v := range good() {
			refuses(t, u, v, num(1), api.ErrForm)
			refuses(t, u, num(1), v, api.ErrForm)
		}
	}
	for _, u := range mayBe() {
		for _, v := range good() {
			refuses(t, u, null, v, api.ErrKind)
		}
	}
}

// B3: the numbers from 1 on, up to the first that is missing, in whatever order they stand.
func TestLen(t *testing.T) {
	x := text("x")
	back := row(api.MaxKeys)
	slices.Reverse(back.Keys)
	for _, c := range []struct {
		t    api.Table
		want int
	}{
		{api.Table{}, 0}, {of(num(1), x), 1}, {of(num(2), x), 0}, {of(num(0), x), 0}, {of(num(-1), x, num(0), x), 0},
		{of(num(1), x, num(3), x), 1}, {of(num(3), x, num(1), x, num(2), x), 3}, {of(num(3), x, num(0), x, num(1), x), 1},
		{of(text("1"), x), 0}, {of(sample.Bool(true), x), 0}, {of(tab(1), x), 0}, {of(sample.Fun(1), x), 0},
		{of(num(1), x, tab(2), x, text("2"), x), 1}, {of(num(1), sample.Bool(false), num(2), num(0), num(3), text("")), 3},
		{of(num(1), x, num(math.MaxInt64), x, num(math.MinInt64), x), 1},
		{row(api.MaxKeys - 1), api.MaxKeys - 1}, {row(api.MaxKeys), api.MaxKeys}, {back, api.MaxKeys}, {mixed(), 1},
	} {
		if n := table.Len(c.t); n != c.want {
			t.Fatalf("Len(%v): %d, want %d", c.t, n, c.want)
		}
	}
	for _, u := range mayNotBe() {
		if n := table.Len(u); n != 0 {
			t.Fatalf("Len(%v): %d, want 0", u, n)
		}
	}
}

// B3: from nil on Next goes through all keys in their order, and to nil behind the last one.
func TestNext(t *testing.T) {
	for _, u := range mayBe() {
		k := null
		for _, want := range append(slices.Clone(u.Keys), null) {
			got, e := table.Next(u, k)
			if got != want || e != api.OK {
				t.Fatalf("Next(%v, %v): %v, %v; want %v", u, k, got, e, want)
			}
			k = got
		}
	}
}

// B3: a key that is none, and what may not be.
func TestNextWrong(t *testing.T) {
	wrong := func(u api.Table, k api.Value, want api.Errno) {
		t.Helper()
		if got, e := table.Next(u, k); got != null || e != want {
			t.Fatalf("Next(%v, %v): %v, %v; want %v", u, k, got, e, want)
		}
	}
	for _, u := range mayBe() {
		for _, k := range append(good()[1:], num(101), text("1"), text("none")) {
			if !slices.Contains(u.Keys, k) {
				wrong(u, k, api.ErrName)
			}
		}
		for _, k := range bad() {
			wrong(u, k, api.ErrForm)
		}
	}
	for _, u := range mayNotBe() {
		for _, k := range append(append(good(), bad()...), u.Keys...) {
			wrong(u, k, api.ErrForm)
		}
	}
	wrong(of(text("a"), text("b")), text("b"), api.ErrName)
}
