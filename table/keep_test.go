package table_test

import (
	"slices"
	"testing"

	"packtrail/api"
	"packtrail/table"
	"packtrail/value"
)

// under looks for a key on its own, so that Get is not held against itself.
func under(t api.Table, k api.Value) api.Value {
	if i := slices.Index(t.Keys, k); i >= 0 {
		return t.Vals[i]
	}
	return null
}

// holds checks of one Set all that B4 says: what was set is got, all else is as it was, keys stay in their order.
func holds(t *testing.T, old api.Table, k, v api.Value) api.Table {
	t.Helper()
	u, e := table.Set(old, k, v)
	if e != api.OK || !table.May(u) {
		t.Fatalf("Set(%v, %v, %v): %v, %v", old, k, v, u, e)
	}
	if got := table.Get(u, k); got != v {
		t.Fatalf("Set(%v, %v, %v): %v is got", old, k, v, got)
	}
	want := slices.Clone(old.Keys)
	if i := slices.Index(want, k); v == null && i >= 0 {
		want = slices.Delete(want, i, i+1)
	} else if v != null && i < 0 {
		want = append(want, k)
	}
	if !slices.Equal(u.Keys, want) {
		t.Fatalf("Set(%v, %v, %v): keys %v, want %v", old, k, v, u.Keys, want)
	}
	for _, other := range append(slices.Clone(old.Keys), good()...) {
		if other != k && table.Get(u, other) != under(old, other) {
			t.Fatalf("Set(%v, %v, %v): another one under %v", old, k, v, other)
		}
	}
	return u
}

// B4: one Set, of each table, with each key, to nil and to others.
func TestKeepOne(t *testing.T) {
	for _, u := range mayBe() {
		for _, k := range append(good()[1:], num(2), text("b")) {
			if len(u.Keys) == api.MaxKeys && !slices.Contains(u.Keys, k) {
				continue
			}
			for _, v := range good()[:4] {
				holds(t, u, k, v)
			}
		}
	}
}

// B4: many Sets in a row; the numbers come from a fixed rule, so that each run is the same.
func TestKeepMany(t *testing.T) {
	keys, vals := append(good()[1:], row(40).Keys[1:]...), good()
	var u api.Table
	for i, at := 0, 1; i < 1000; i++ {
		at = at * 75 % 65537
		u = holds(t, u, keys[at/7%len(keys)], vals[at/3%5])
	}
	if len(u.Keys) == 0 {
		t.Error("nothing is left to look at")
	}
}

// roomy has the lists of a table in one array, each with something behind its length, all of which it also answers.
func roomy(t api.Table) (api.Table, []api.Value) {
	var all []api.Value
	n := len(t.Keys)
	all = append(append(all, t.Keys...), text("behind"), text("keys"))
	all = append(append(all, t.Vals...), text("behind"), text("vals"))
	return api.Table{Keys: all[:n], Vals: all[n+2 : 2*n+2]}, all
}

// P3: nothing that was handed in is written to, nor what lies behind it, and the answer shares no memory with it, nor its lists with each other.
func TestNewMemory(t *testing.T) {
	for _, plain := range mayBe() {
		for _, k := range append(good(), num(2), num(99)) {
			for _, v := range []api.Value{null, num(5)} {
				u, all := roomy(plain)
				before := slices.Clone(all)
				got, _ := table.Set(u, k, v)
				table.Get(u, k)
				table.Len(u)
				table.Next(u, k)
				after := copied(got)
				fill(got.Keys)
				if !slices.Equal(got.Vals, after.Vals) {
					t.Fatalf("Set(%v, %v, %v): keys and values share memory", plain, k, v)
				}
				fill(got.Vals)
				if !slices.Equal(all, before) {
					t.Fatalf("Set(%v, %v, %v): what was handed in is %v", plain, k, v, all)
				}
			}
		}
	}
}

// fill writes over a list, up to all that it has room for.
func fill(list []api.Value) {
	list = list[:cap(list)]
	for i := range list {
		list[i] = text("written over")
	}
}

// P1, P2: no call panics at any table of two pairs and any key; what is answered may be.
func FuzzTable(f *testing.F) {
	f.Add(2, int64(1), "", 3, int64(0), "x", 2, int64(1), "", 0)
	f.Add(2, int64(1), "", 3, int64(0), "x", 2, int64(2), "", 1)
	f.Add(3, int64(0), "a", 1, int64(1), "", 0, int64(0), "", 2)
	f.Add(0, int64(0), "", 4, int64(-1), "", 9, int64(9), "z", 3)
	f.Fuzz(func(t *testing.T, ak int, an int64, as string, bk int, bn int64, bs string, ck int, cn int64, cs string, cut int) {
		a, b, c := api.Value{Kind: ak, N: an, S: as}, api.Value{Kind: bk, N: bn, S: bs}, api.Value{Kind: ck, N: cn, S: cs}
		u := of(a, b, b, c)
		u.Vals = u.Vals[:2-cut&1]
		got, e := table.Set(u, c, a)
		key, e2 := table.Next(u, c)
		if e != api.OK && len(got.Keys)+len(got.Vals) != 0 || e2 != api.OK && key != null || !table.May(got) || !value.May(key) || !value.May(table.Get(u, c)) {
			t.Fatalf("of %v, %v, %v: %v, %v, %v, %v", u, c, a, got, e, key, e2)
		}
		if !table.May(u) && (e != api.ErrForm || e2 != api.ErrForm || table.Len(u) != 0 || table.Get(u, a) != null) {
			t.Fatalf("%v may not be, but something is said of it", u)
		}
		if e == api.OK {
			holds(t, u, c, a)
		}
	})
}
