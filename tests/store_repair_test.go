package tests

import (
	"testing"

	"loop.example/g00749/impl"
)

func wantRepaired(t *testing.T, name string, was, want impl.Store) {
	t.Helper()
	got, ok := impl.RepairAll(was)
	wantStore(t, name, got, ok, want)
	if is, ok := impl.IsPlaced(was); is != sameStore(was, want) || !ok {
		t.Error(name, "placed", is, ok)
	}
	again, ok := impl.RepairAll(got)
	wantStore(t, name+", twice", again, ok, want)
	if is, ok := impl.IsPlaced(got); !is || !ok {
		t.Error(name, "repaired, but placed", is, ok)
	}
}

func TestRepairAll(t *testing.T) {
	row := func(key, ver, val int) impl.Row { return impl.Row{Key: key, Ver: ver, Val: val} }
	gone := func(key, ver int) impl.Row { return impl.Row{Key: key, Ver: ver, Gone: true} }
	type tables = [][]impl.Row
	for _, c := range []struct {
		name      string
		was, want tables
	}{
		{"nothing there", nil, nil},
		{"all in its place", tables{nil, {row(3, 1, 7)}, {row(3, 1, 7)}}, tables{nil, {row(3, 1, 7)}, {row(3, 1, 7)}}},
		{"the other has it not", tables{nil, {row(3, 1, 7)}}, tables{nil, {row(3, 1, 7)}, {row(3, 1, 7)}}},
		{"the owner has it not", tables{nil, nil, {row(3, 1, 7)}}, tables{nil, {row(3, 1, 7)}, {row(3, 1, 7)}}},
		{"the owner has the greater Ver", tables{nil, {row(3, 9, 1)}, {row(3, 8, 7)}}, tables{nil, {row(3, 9, 1)}, {row(3, 9, 1)}}},
		{"the other has the greater Ver", tables{nil, {row(3, 8, 7)}, {row(3, 9, 1)}}, tables{nil, {row(3, 9, 1)}, {row(3, 9, 1)}}},
		{"the greater Ver, though the other is Gone", tables{nil, {gone(3, 8)}, {row(3, 9, 0)}}, tables{nil, {row(3, 9, 0)}, {row(3, 9, 0)}}},
		{"Gone with the greater Ver", tables{nil, {row(3, 8, 7)}, {gone(3, 9)}}, tables{nil, {gone(3, 9)}, {gone(3, 9)}}},
		{"the owner has it Gone with the same Ver", tables{nil, {gone(3, 9)}, {row(3, 9, 7)}}, tables{nil, {gone(3, 9)}, {gone(3, 9)}}},
		{"the other has it Gone with the same Ver", tables{nil, {row(3, 9, 7)}, {gone(3, 9)}}, tables{nil, {gone(3, 9)}, {gone(3, 9)}}},
		{"the owner has the greater Val", tables{nil, {row(3, 9, 7)}, {row(3, 9, 6)}}, tables{nil, {row(3, 9, 7)}, {row(3, 9, 7)}}},
		{"the other has the greater Val", tables{nil, {row(3, 9, 6)}, {row(3, 9, 7)}}, tables{nil, {row(3, 9, 7)}, {row(3, 9, 7)}}},
		{"one that is no holder has it", tables{{row(3, 2, 7)}}, tables{nil, {row(3, 2, 7)}, {row(3, 2, 7)}}},
		{"one that is no holder has the greater Ver", tables{nil, {row(3, 8, 7)}, {row(3, 8, 7)}, {row(3, 9, 1)}}, tables{nil, {row(3, 9, 1)}, {row(3, 9, 1)}}},
		{"one that is no holder has a lesser one", tables{nil, {row(3, 8, 7)}, {row(3, 8, 7)}, {row(3, 7, 9)}}, tables{nil, {row(3, 8, 7)}, {row(3, 8, 7)}}},
		{"a Ver of 999999 and of 1000000", tables{nil, {row(3, 999999, 7)}, {row(3, 1000000, 6)}}, tables{nil, {row(3, 1000000, 6)}, {row(3, 1000000, 6)}}},
		{"one key of each owner", tables{{row(2, 1, 1), row(5, 1, 1), row(9, 1, 1), row(14, 1, 1)}}, tables{{row(2, 1, 1), row(14, 1, 1)}, {row(2, 1, 1), row(5, 1, 1)}, {row(5, 1, 1), row(9, 1, 1)}, {row(9, 1, 1), row(14, 1, 1)}}},
		{"0 and the greatest number", tables{nil, nil, {row(0, 1, 1), row(15, 1, 1)}}, tables{{row(0, 1, 1), row(15, 1, 1)}, {row(0, 1, 1), row(15, 1, 1)}}},
	} {
		wantRepaired(t, c.name, fourTables(c.was...), fourTables(c.want...))
	}
}

// manyMembers has 16 members, each at the last of so many numbers as it owns.
func manyMembers(each int) (impl.Space, []int) {
	s := impl.Space{Bits: 8, Digit: 2}
	return s, membersWhere(s, func(x int) bool { return x < 16*each && x%each == each-1 })
}

// 128 keys, far more than one table may have, and yet 8 for each member.
func TestRepairAllOfMoreThanMaxRowsInAll(t *testing.T) {
	s, m := manyMembers(8)
	want := modelNewStore(s, m, 0)
	for i := range want.Keeps {
		want.Keeps[i].Table = rowsAt(8*i, 8)
	}
	wantRepaired(t, "each has its own", want, want)
	for _, by := range []int{1, 5, 15} {
		turned := cloneStore(want)
		for i := range turned.Keeps {
			turned.Keeps[i].Table = want.Keeps[(i+by)%16].Table
		}
		wantRepaired(t, "each has what another one owns", turned, want)
		// Whoever is behind the second one has its keys too, once that is
		// gone: there is room only where its own were lost with that.
		less, _ := impl.CrashKeep(turned, m[1])
		checkFits(t, less, by == 1)
	}
}

// Keys of one member: as many as a table may have, and one more.
func TestRepairAllUpToMaxRows(t *testing.T) {
	s, m := manyMembers(16)
	for copies := range 4 {
		for at := range 16 {
			for many := 7; many <= 9; many++ {
				store := modelNewStore(s, m, copies)
				// Half of them at the owner, half at one that is no holder.
				store.Keeps[at].Table = rowsAt(16*at, 4)
				store.Keeps[(at+9)%16].Table = rowsAt(16*at+4, many-4)
				checkFits(t, store, many <= 8)
				if _, ok := impl.RepairAll(store); ok != (many <= 8) {
					t.Fatal(storeText(store), ok)
				}
			}
		}
	}
}

// With copies a member holds keys that others own, and all of them count.
func TestRepairAllUpToMaxRowsWithCopies(t *testing.T) {
	s, m := manyMembers(16)
	for copies := 1; copies <= 3; copies++ {
		for at := range 16 {
			for many := range 8 {
				owner := (at + 16 - copies) % 16
				store := modelNewStore(s, m, copies)
				store.Keeps[at].Table = rowsAt(16*at, many)
				store.Keeps[owner].Table = rowsAt(16*owner, 8-many)
				checkFits(t, store, true)
				store.Keeps[owner].Table = rowsAt(16*owner, min(9-many, 8))
				checkFits(t, store, many == 0)
			}
		}
	}
}

func checkFits(t *testing.T, store impl.Store, fits bool) {
	t.Helper()
	got, ok := impl.RepairAll(store)
	is, one := impl.IsPlaced(store)
	if !fits {
		wantNoStore(t, "without room", got, ok)
		if is || !one {
			t.Fatal("placed without room", storeText(store), is, one)
		}
		return
	}
	want, has := modelRepair(store)
	if !ok || !has || !sameStore(got, want) || is != sameStore(store, want) || !one {
		t.Fatal(storeText(store), "got", storeText(got), ok, "want", storeText(want), has, "placed", is, one)
	}
}

// A ring where all hold all: as many keys as one table may have, in all.
func TestRepairAllWhereAllHoldAll(t *testing.T) {
	s := impl.Space{Bits: 4, Digit: 4}
	for _, m := range [][]int{{0}, {15}, {3, 9}, {0, 1, 2}, {4, 8, 12, 15}} {
		for many := range 12 {
			store := modelNewStore(s, m, 3)
			for k := range many {
				at := k % len(m)
				if len(store.Keeps[at].Table) < 8 {
					store.Keeps[at].Table = append(store.Keeps[at].Table, impl.Row{Key: k, Ver: k + 1, Val: k})
				}
			}
			checkFits(t, store, many <= 8 || len(m) == 1)
		}
	}
}

// Whoever has which of several tables, the same comes of it.
func TestRepairAllDoesNotHangOnWhoHasWhat(t *testing.T) {
	s := impl.Space{Bits: 3, Digit: 1}
	m := []int{0, 2, 3, 6}
	for copies := range 4 {
		for seed := range 200 {
			store := strayStore(s, m, copies, seed)
			want, has := impl.RepairAll(store)
			for by := 1; by < 4; by++ {
				turned := cloneStore(store)
				for i := range turned.Keeps {
					turned.Keeps[i].Table = store.Keeps[(i*3+by)%4].Table
				}
				got, ok := impl.RepairAll(turned)
				if ok != has || !sameStore(got, want) {
					t.Fatal(storeText(store), storeText(turned), "got", storeText(got), ok, "want", storeText(want), has)
				}
			}
		}
	}
}

func TestIsPlaced(t *testing.T) {
	s, m := fourMembers()
	placed := modelNewStore(s, m, 2)
	for i, key := range []int{0, 3, 9, 15} {
		placed, _ = modelPutKey(placed, key, i)
	}
	placed, _ = modelDropKey(placed, 3)
	for _, c := range []struct {
		name   string
		want   bool
		change func(t *impl.Store)
	}{
		{"as it is", true, func(t *impl.Store) {}},
		{"a row that the owner has not", false, func(t *impl.Store) { t.Keeps[1].Table = t.Keeps[1].Table[:2] }},
		{"a row that the last holder has not", false, func(t *impl.Store) { t.Keeps[3].Table = t.Keeps[3].Table[1:] }},
		{"a table that is empty", false, func(t *impl.Store) { t.Keeps[0].Table = nil }},
		{"a row of a key that is not its own", false, func(t *impl.Store) { t.Keeps[3].Table = append([]impl.Row{{Key: 0, Ver: 1}}, t.Keeps[3].Table...) }},
		{"another Ver at the owner", false, func(t *impl.Store) { t.Keeps[1].Table[1].Ver = 1 }},
		{"another Val at a copy", false, func(t *impl.Store) { t.Keeps[3].Table[1].Val = 5 }},
		{"not Gone at a copy", false, func(t *impl.Store) { t.Keeps[3].Table[0].Gone = false }},
		{"fewer copies", false, func(t *impl.Store) { t.Copies = 1 }},
		{"more copies", false, func(t *impl.Store) { t.Copies = 3 }},
		{"another number of a member", false, func(t *impl.Store) { t.Keeps[2].Id = 8 }},
		{"another number of a member, with no other keys", true, func(t *impl.Store) { t.Keeps[2].Id = 10 }},
		{"another Digit", true, func(t *impl.Store) { t.Space.Digit = 4 }},
	} {
		store := changedStore(placed, c.change)
		if is, ok := impl.IsPlaced(store); is != c.want || !ok {
			t.Error(c.name, storeText(store), "got", is, ok)
		}
	}
}
