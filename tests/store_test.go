package tests

import (
	"testing"

	"loop.example/g00749/impl"
)

// A ring of 16 numbers with four members, and what belongs to which of them.
func fourMembers() (impl.Space, []int) {
	return impl.Space{Bits: 4, Digit: 1}, []int{2, 5, 9, 14}
}

// fourTables has a store of the four members with these tables, of one copy.
func fourTables(tables ...[]impl.Row) impl.Store {
	s, m := fourMembers()
	t := modelNewStore(s, m, 1)
	for i, table := range tables {
		t.Keeps[i].Table = table
	}
	return t
}

// sixteenMembers has as many members as there may be, at every number.
func sixteenMembers() (impl.Space, []int) {
	s := impl.Space{Bits: 4, Digit: 2}
	return s, membersWhere(s, func(int) bool { return true })
}

func wantStore(t *testing.T, name string, got impl.Store, ok bool, want impl.Store) {
	t.Helper()
	if !ok || !sameStore(got, want) {
		t.Error(name, "got", storeText(got), ok, "want", storeText(want))
	}
}

func wantNoStore(t *testing.T, name string, got impl.Store, ok bool) {
	t.Helper()
	if ok || !sameStore(got, impl.Store{}) {
		t.Error(name, "got", storeText(got), ok)
	}
}

func TestHoldersOf(t *testing.T) {
	s, m := fourMembers()
	s16, m16 := sixteenMembers()
	for _, c := range []struct {
		name        string
		s           impl.Space
		m           []int
		key, copies int
		want        []int
	}{
		{"the owner alone", s, m, 3, 0, []int{5}},
		{"one copy", s, m, 3, 1, []int{5, 9}},
		{"two copies", s, m, 3, 2, []int{5, 9, 14}},
		{"three copies are all", s, m, 3, 3, []int{5, 9, 14, 2}},
		{"a member's own number", s, m, 9, 1, []int{9, 14}},
		{"one behind a member", s, m, 10, 1, []int{14, 2}},
		{"the greatest member", s, m, 14, 2, []int{14, 2, 5}},
		{"one behind the greatest member", s, m, 15, 2, []int{2, 5, 9}},
		{"0", s, m, 0, 1, []int{2, 5}},
		{"the greatest number", s, m, 15, 0, []int{2}},
		{"a member alone", s, []int{7}, 9, 0, []int{7}},
		{"a member alone with copies", s, []int{7}, 9, 3, []int{7}},
		{"a member alone with its own", s, []int{7}, 7, 3, []int{7}},
		{"two with more copies than others", s, []int{7, 11}, 9, 2, []int{11, 7}},
		{"two with one copy", s, []int{7, 11}, 7, 1, []int{7, 11}},
		{"three with three copies", s, []int{0, 1, 15}, 15, 3, []int{15, 0, 1}},
		{"16 with no copy", s16, m16, 15, 0, []int{15}},
		{"16 with three copies", s16, m16, 14, 3, []int{14, 15, 0, 1}},
	} {
		if got, ok := impl.HoldersOf(c.s, c.m, c.key, c.copies); !ok || !sameList(got, c.want) {
			t.Error(c.name, "got", got, ok, "want", c.want)
		}
	}
}

func TestHoldersOfByModel(t *testing.T) {
	for _, s := range spacesUpTo(12) {
		for _, m := range someFewRings(s) {
			for _, key := range numbersNear(s, m) {
				for copies := range 4 {
					want := modelHolders(s, m, key, copies)
					if got, ok := impl.HoldersOf(s, m, key, copies); !ok || !sameList(got, want) {
						t.Fatal(s, m, key, copies, "got", got, ok, "want", want)
					}
				}
			}
		}
	}
}

func TestHoldersOfEveryRing(t *testing.T) {
	for _, s := range spacesUpTo(3) {
		for _, m := range allRings(s, 1) {
			for key := range powerOf2(s.Bits) {
				for copies := range 4 {
					want := modelHolders(s, m, key, copies)
					if got, ok := impl.HoldersOf(s, m, key, copies); !ok || !sameList(got, want) {
						t.Fatal(s, m, key, copies, "got", got, ok, "want", want)
					}
				}
			}
		}
	}
}

func TestGoodStore(t *testing.T) {
	for _, c := range []struct {
		name   string
		want   bool
		change func(t *impl.Store)
	}{
		{"as it is", true, func(t *impl.Store) {}},
		{"no copies", true, func(t *impl.Store) { t.Copies = 0 }},
		{"3 copies", true, func(t *impl.Store) { t.Copies = 3 }},
		{"4 copies", false, func(t *impl.Store) { t.Copies = 4 }},
		{"-1 copies", false, func(t *impl.Store) { t.Copies = -1 }},
		{"a member alone", true, func(t *impl.Store) { t.Keeps = t.Keeps[1:2] }},
		{"a member alone with 3 copies", true, func(t *impl.Store) { t.Keeps, t.Copies = t.Keeps[1:2], 3 }},
		{"no Keeps", false, func(t *impl.Store) { t.Keeps = nil }},
		{"another Digit", true, func(t *impl.Store) { t.Space.Digit = 4 }},
		{"a Digit that does not divide", false, func(t *impl.Store) { t.Space.Digit = 3 }},
		{"more Bits", true, func(t *impl.Store) { t.Space.Bits = 12 }},
		{"too many Bits", false, func(t *impl.Store) { t.Space.Bits = 13 }},
		{"fewer Bits", false, func(t *impl.Store) { t.Space.Bits = 3 }},
		{"no Space", false, func(t *impl.Store) { t.Space = impl.Space{} }},
		{"Ids that do not rise", false, func(t *impl.Store) { t.Keeps[2].Id = 4 }},
		{"two Ids alike", false, func(t *impl.Store) { t.Keeps[2].Id = 5 }},
		{"an Id of the greatest number", true, func(t *impl.Store) { t.Keeps[3].Id = 15 }},
		{"an Id just outside", false, func(t *impl.Store) { t.Keeps[3].Id = 16 }},
		{"an Id of 0", true, func(t *impl.Store) { t.Keeps[0].Id = 0 }},
		{"an Id below 0", false, func(t *impl.Store) { t.Keeps[0].Id = -1 }},
		{"a table of 8", true, func(t *impl.Store) { t.Keeps[3].Table = eightRows() }},
		{"a table of 9", false, func(t *impl.Store) { t.Keeps[3].Table = rowsAt(0, 9) }},
		{"a key just outside", false, func(t *impl.Store) { t.Keeps[3].Table = rowsAt(16, 1) }},
		{"a row of a key of another one", true, func(t *impl.Store) { t.Keeps[3].Table = rowsAt(3, 1) }},
		{"a Ver of 0 in the last table", false, func(t *impl.Store) { t.Keeps[3].Table = []impl.Row{{Key: 3}} }},
		{"keys that fall in the first table", false, func(t *impl.Store) { t.Keeps[0].Table = []impl.Row{{Key: 3, Ver: 1}, {Key: 2, Ver: 1}} }},
	} {
		store := changedStore(fourTables(rowsAt(15, 1), rowsAt(2, 4)), c.change)
		if got := impl.GoodStore(store); got != c.want {
			t.Error(c.name, "got", got)
		}
	}
}

func TestGoodStoreUpToMaxMembers(t *testing.T) {
	s, m := sixteenMembers()
	full := modelNewStore(s, m, 3)
	for i := range full.Keeps {
		full.Keeps[i].Table = eightRows()
	}
	if !impl.GoodStore(full) {
		t.Error("16 full tables refused")
	}
	s.Bits = 6
	full.Space = s
	if !impl.GoodStore(full) {
		t.Error("16 full tables of a greater space refused")
	}
	full.Keeps = append(full.Keeps, impl.Keep{Id: 16})
	if impl.GoodStore(full) {
		t.Error("17 taken")
	}
	full.Keeps = make([]impl.Keep, 1000000)
	if impl.GoodStore(full) {
		t.Error("a long list taken")
	}
}

func TestGoodStoreByModel(t *testing.T) {
	for _, s := range fewSpaces() {
		for _, m := range someFewRings(s) {
			for _, store := range storesOn(s, m) {
				if !impl.GoodStore(store) || !modelGoodStore(store) {
					t.Fatal("good one refused", storeText(store))
				}
			}
		}
	}
}

func TestNewStore(t *testing.T) {
	s, m := fourMembers()
	got, ok := impl.NewStore(s, m, 2)
	wantStore(t, "four members", got, ok, impl.Store{Space: s, Copies: 2, Keeps: []impl.Keep{{Id: 2}, {Id: 5}, {Id: 9}, {Id: 14}}})
	got, ok = impl.NewStore(s, []int{15}, 0)
	wantStore(t, "a member alone", got, ok, impl.Store{Space: s, Keeps: []impl.Keep{{Id: 15}}})
	for _, s := range spacesUpTo(12) {
		for _, m := range someFewRings(s) {
			for copies := range 4 {
				got, ok := impl.NewStore(s, m, copies)
				wantStore(t, "a ring", got, ok, modelNewStore(s, m, copies))
				if is, ok := impl.IsPlaced(got); !is || !ok {
					t.Fatal("an empty store is not placed", storeText(got))
				}
			}
		}
	}
}

func TestPutKey(t *testing.T) {
	row := func(key, ver, val int) impl.Row { return impl.Row{Key: key, Ver: ver, Val: val} }
	gone := func(key, ver int) impl.Row { return impl.Row{Key: key, Ver: ver, Gone: true} }
	full := rowsAt(0, 8)
	type tables = [][]impl.Row
	for _, c := range []struct {
		name      string
		was       tables
		key, val  int
		want      tables
		isRefused bool
	}{
		{"the first one", nil, 3, 70, tables{nil, {row(3, 1, 70)}, {row(3, 1, 70)}}, false},
		{"a member's own number", nil, 9, 0, tables{nil, nil, {row(9, 1, 0)}, {row(9, 1, 0)}}, false},
		{"one behind the greatest", nil, 15, 1000000, tables{{row(15, 1, 1000000)}, {row(15, 1, 1000000)}}, false},
		{"0", nil, 0, 4, tables{{row(0, 1, 4)}, {row(0, 1, 4)}}, false},
		{"the owner is the last one", nil, 12, 4, tables{{row(12, 1, 4)}, nil, nil, {row(12, 1, 4)}}, false},
		{"all holders have it", tables{nil, {row(3, 4, 1)}, {row(3, 4, 1)}}, 3, 7, tables{nil, {row(3, 5, 7)}, {row(3, 5, 7)}}, false},
		{"another holder has a lesser Ver", tables{nil, {row(3, 4, 1)}, {row(3, 2, 1)}}, 3, 7, tables{nil, {row(3, 5, 7)}, {row(3, 5, 7)}}, false},
		{"another holder has a greater Ver", tables{nil, {row(3, 4, 1)}, {row(3, 1000000, 1)}}, 3, 7, tables{nil, {row(3, 5, 7)}, {row(3, 5, 7)}}, false},
		{"the owner alone has it", tables{nil, {row(3, 4, 1)}}, 3, 7, tables{nil, {row(3, 5, 7)}, {row(3, 5, 7)}}, false},
		{"another holder alone has it", tables{nil, nil, {row(3, 4, 1)}}, 3, 7, tables{nil, {row(3, 1, 7)}, {row(3, 1, 7)}}, false},
		{"one that is no holder has it", tables{{row(3, 8, 8)}, nil, nil, {gone(3, 5)}}, 3, 7, tables{{row(3, 8, 8)}, {row(3, 1, 7)}, {row(3, 1, 7)}, {gone(3, 5)}}, false},
		{"the owner has it Gone", tables{nil, {gone(3, 4)}, {gone(3, 4)}}, 3, 7, tables{nil, {row(3, 5, 7)}, {row(3, 5, 7)}}, false},
		{"another holder has it Gone", tables{nil, {row(3, 4, 1)}, {gone(3, 9)}}, 3, 7, tables{nil, {row(3, 5, 7)}, {row(3, 5, 7)}}, false},
		{"other keys stay", tables{nil, {row(1, 1, 1), row(4, 1, 1)}, {row(5, 1, 1)}}, 3, 7, tables{nil, {row(1, 1, 1), row(3, 1, 7), row(4, 1, 1)}, {row(3, 1, 7), row(5, 1, 1)}}, false},
		{"a Ver of 999999", tables{nil, {row(3, 999999, 1)}}, 3, 7, tables{nil, {row(3, 1000000, 7)}, {row(3, 1000000, 7)}}, false},
		{"a Ver of 1000000", tables{nil, {row(3, 1000000, 1)}}, 3, 7, nil, true},
		{"a Ver of 1000000, Gone", tables{nil, {gone(3, 1000000)}}, 3, 7, nil, true},
		{"both full, with the key", tables{nil, full, full}, 3, 7, tables{nil, modelSetRow(impl.Space{Bits: 4, Digit: 1}, full, row(3, 2, 7)), modelSetRow(impl.Space{Bits: 4, Digit: 1}, full, row(3, 2, 7))}, false},
		{"the owner full, with the key", tables{nil, full}, 3, 7, tables{nil, modelSetRow(impl.Space{Bits: 4, Digit: 1}, full, row(3, 2, 7)), {row(3, 2, 7)}}, false},
		{"the other full, with the key", tables{nil, nil, full}, 3, 7, tables{nil, {row(3, 1, 7)}, modelSetRow(impl.Space{Bits: 4, Digit: 1}, full, row(3, 1, 7))}, false},
		{"the owner full, without the key", tables{nil, rowsAt(4, 8)}, 3, 7, nil, true},
		{"the other full, without the key", tables{nil, nil, rowsAt(4, 8)}, 3, 7, nil, true},
		{"the other full, without the key that the owner has", tables{nil, {row(3, 1, 1)}, rowsAt(4, 8)}, 3, 7, nil, true},
		{"the owner full, without the key that the other has", tables{nil, rowsAt(4, 8), {row(3, 1, 1)}}, 3, 7, nil, true},
		{"room for one more at both", tables{nil, rowsAt(4, 7), rowsAt(5, 7)}, 3, 7, tables{nil, append([]impl.Row{row(3, 1, 7)}, rowsAt(4, 7)...), append([]impl.Row{row(3, 1, 7)}, rowsAt(5, 7)...)}, false},
		{"one that is no holder is full", tables{rowsAt(4, 8), nil, nil, rowsAt(4, 8)}, 3, 7, tables{rowsAt(4, 8), {row(3, 1, 7)}, {row(3, 1, 7)}, rowsAt(4, 8)}, false},
		{"a key just outside", nil, 16, 7, nil, true},
		{"a key below 0", nil, -1, 7, nil, true},
		{"a val just outside", nil, 3, 1000001, nil, true},
		{"a val below 0", nil, 3, -1, nil, true},
	} {
		got, ok := impl.PutKey(fourTables(c.was...), c.key, c.val)
		if c.isRefused {
			wantNoStore(t, c.name, got, ok)
		} else {
			wantStore(t, c.name, got, ok, fourTables(c.want...))
		}
	}
}

func TestDropKey(t *testing.T) {
	row := func(key, ver, val int) impl.Row { return impl.Row{Key: key, Ver: ver, Val: val} }
	gone := func(key, ver int) impl.Row { return impl.Row{Key: key, Ver: ver, Gone: true} }
	type tables = [][]impl.Row
	for _, c := range []struct {
		name      string
		was       tables
		key       int
		want      tables
		isRefused bool
	}{
		{"all holders have it", tables{nil, {row(3, 1, 7)}, {row(3, 1, 7)}}, 3, tables{nil, {gone(3, 2)}, {gone(3, 2)}}, false},
		{"a val of 0", tables{nil, {row(3, 1, 0)}, {row(3, 1, 0)}}, 3, tables{nil, {gone(3, 2)}, {gone(3, 2)}}, false},
		{"the owner has it Gone", tables{nil, {gone(3, 4)}, {row(3, 3, 7)}}, 3, nil, true},
		{"the owner has it not", tables{nil, nil, {row(3, 3, 7)}}, 3, nil, true},
		{"none has it", nil, 3, nil, true},
		{"the others have it not", tables{nil, {row(3, 3, 7)}}, 3, tables{nil, {gone(3, 4)}, {gone(3, 4)}}, false},
		{"the other has it Gone", tables{nil, {row(3, 3, 7)}, {gone(3, 9)}}, 3, tables{nil, {gone(3, 4)}, {gone(3, 4)}}, false},
		{"the other has a greater Ver", tables{nil, {row(3, 3, 7)}, {row(3, 9, 9)}}, 3, tables{nil, {gone(3, 4)}, {gone(3, 4)}}, false},
		{"one that is no holder has it", tables{{row(3, 3, 7)}, nil, nil, {row(3, 3, 7)}}, 3, nil, true},
		{"a Ver of 999999", tables{nil, {row(3, 999999, 7)}}, 3, tables{nil, {gone(3, 1000000)}, {gone(3, 1000000)}}, false},
		{"a Ver of 1000000", tables{nil, {row(3, 1000000, 7)}}, 3, nil, true},
		{"both full, with the key", tables{nil, rowsAt(3, 8), rowsAt(3, 8)}, 3, tables{nil, append([]impl.Row{gone(3, 2)}, rowsAt(4, 7)...), append([]impl.Row{gone(3, 2)}, rowsAt(4, 7)...)}, false},
		{"the other full, without the key", tables{nil, {row(3, 3, 7)}, rowsAt(4, 8)}, 3, nil, true},
		{"0", tables{{row(0, 1, 7)}, {row(0, 1, 7)}}, 0, tables{{gone(0, 2)}, {gone(0, 2)}}, false},
		{"one behind the greatest", tables{{row(15, 1, 7)}, {row(15, 1, 7)}}, 15, tables{{gone(15, 2)}, {gone(15, 2)}}, false},
		{"a key just outside", tables{{row(0, 1, 7)}}, 16, nil, true},
		{"a key below 0", tables{{row(0, 1, 7)}}, -1, nil, true},
	} {
		got, ok := impl.DropKey(fourTables(c.was...), c.key)
		if c.isRefused {
			wantNoStore(t, c.name, got, ok)
		} else {
			wantStore(t, c.name, got, ok, fourTables(c.want...))
		}
	}
}

func TestGetKey(t *testing.T) {
	store := fourTables(
		[]impl.Row{{Key: 0, Ver: 1, Val: 5}, {Key: 15, Ver: 1, Val: 6}},
		[]impl.Row{{Key: 3, Ver: 2, Gone: true}, {Key: 4, Ver: 2}, {Key: 9, Ver: 3, Val: 8}},
		[]impl.Row{{Key: 3, Ver: 9, Val: 9}, {Key: 4, Ver: 9, Val: 9}, {Key: 5, Ver: 9, Val: 9}},
		[]impl.Row{{Key: 14, Ver: 1000000, Val: 1000000}},
	)
	for _, c := range []struct {
		name string
		key  int
		val  int
		ok   bool
	}{
		{"the owner has it", 0, 5, true},
		{"behind the greatest member", 15, 6, true},
		{"a member's own number", 14, 1000000, true},
		{"the owner has it Gone", 3, 0, false},
		{"the owner has it with a val of 0", 4, 0, true},
		{"another holder alone has it", 5, 0, false},
		{"one that is no holder alone has it", 9, 0, false},
		{"none has it", 10, 0, false},
		{"just outside", 16, 0, false},
		{"below 0", -1, 0, false},
	} {
		if val, ok := impl.GetKey(store, c.key); val != c.val || ok != c.ok {
			t.Error(c.name, "got", val, ok)
		}
	}
}

func TestCrashKeep(t *testing.T) {
	store := fourTables(rowsAt(0, 2), rowsAt(3, 3), rowsAt(6, 8), nil)
	for i, keep := range store.Keeps {
		want := cloneStore(store)
		want.Keeps = append(want.Keeps[:i], want.Keeps[i+1:]...)
		got, ok := impl.CrashKeep(store, keep.Id)
		wantStore(t, "a member", got, ok, want)
	}
	for _, id := range []int{0, 3, 15, 16, -1, -2} {
		got, ok := impl.CrashKeep(store, id)
		wantNoStore(t, "no member", got, ok)
	}
	s, _ := fourMembers()
	alone := modelNewStore(s, []int{7}, 3)
	alone.Keeps[0].Table = rowsAt(0, 3)
	for id := -1; id <= 16; id++ {
		got, ok := impl.CrashKeep(alone, id)
		wantNoStore(t, "the last member", got, ok)
	}
}

func TestJoinKeep(t *testing.T) {
	store := fourTables(rowsAt(0, 2), rowsAt(3, 3), rowsAt(6, 8), nil)
	for _, c := range []struct{ id, place int }{{0, 0}, {1, 0}, {3, 1}, {4, 1}, {8, 2}, {10, 3}, {13, 3}, {15, 4}} {
		want := cloneStore(store)
		want.Keeps = append(want.Keeps[:c.place:c.place], impl.Keep{Id: c.id})
		want.Keeps = append(want.Keeps, cloneStore(store).Keeps[c.place:]...)
		got, ok := impl.JoinKeep(store, c.id)
		wantStore(t, "a new one", got, ok, want)
	}
	for _, id := range []int{2, 5, 9, 14, 16, 17, -1} {
		got, ok := impl.JoinKeep(store, id)
		wantNoStore(t, "a member already, or outside", got, ok)
	}
}

func TestJoinKeepUpToMaxMembers(t *testing.T) {
	s := impl.Space{Bits: 5, Digit: 1}
	m := membersWhere(s, func(x int) bool { return x%2 == 1 })
	for x := range 32 {
		got, ok := impl.JoinKeep(modelNewStore(s, m, 1), x)
		wantNoStore(t, "a ring of 16", got, ok)
		store := modelNewStore(s, m[1:], 1)
		want, has := modelJoinKeep(store, x)
		got, ok = impl.JoinKeep(store, x)
		if ok != has || !sameStore(got, want) {
			t.Error("a ring of 15", x, "got", storeText(got), ok)
		}
	}
	all, m16 := sixteenMembers()
	for x := -1; x <= 16; x++ {
		got, ok := impl.JoinKeep(modelNewStore(all, m16, 0), x)
		wantNoStore(t, "every number is a member", got, ok)
	}
}

// A member that joins owns keys that others keep: they are got again once all
// is repaired.
func TestJoinKeepWhereKeysAreKept(t *testing.T) {
	s, m := fourMembers()
	store, _ := impl.NewStore(s, m, 1)
	store, _ = impl.PutKey(store, 11, 40)
	joined, ok := impl.JoinKeep(store, 12)
	if _, one := impl.GetKey(joined, 11); one || !ok {
		t.Error("got from a new member with an empty table")
	}
	if is, ok := impl.IsPlaced(joined); is || !ok {
		t.Error("placed", is, ok)
	}
	row := []impl.Row{{Key: 11, Ver: 1, Val: 40}}
	repaired, ok := impl.RepairAll(joined)
	wantStore(t, "repaired", repaired, ok, impl.Store{Space: s, Copies: 1, Keeps: []impl.Keep{
		{Id: 2}, {Id: 5}, {Id: 9}, {Id: 12, Table: row}, {Id: 14, Table: row},
	}})
	if val, one := impl.GetKey(repaired, 11); val != 40 || !one {
		t.Error("got", val, one)
	}
}

func checkStoreByModel(t *testing.T, store impl.Store) {
	t.Helper()
	for i, key := range keysToAskOf(store) {
		got, ok := impl.PutKey(store, key, i)
		if want, has := modelPutKey(store, key, i); ok != has || !sameStore(got, want) {
			t.Fatal("PutKey", storeText(store), key, "got", storeText(got), ok, "want", storeText(want), has)
		}
		got, ok = impl.DropKey(store, key)
		if want, has := modelDropKey(store, key); ok != has || !sameStore(got, want) {
			t.Fatal("DropKey", storeText(store), key, "got", storeText(got), ok, "want", storeText(want), has)
		}
		val, ok := impl.GetKey(store, key)
		if want, has := modelGetKey(store, key); ok != has || val != want {
			t.Fatal("GetKey", storeText(store), key, "got", val, ok, "want", want, has)
		}
		got, ok = impl.CrashKeep(store, key)
		if want, has := modelCrash(store, key); ok != has || !sameStore(got, want) {
			t.Fatal("CrashKeep", storeText(store), key, "got", storeText(got), ok, "want", storeText(want), has)
		}
		got, ok = impl.JoinKeep(store, key)
		if want, has := modelJoinKeep(store, key); ok != has || !sameStore(got, want) {
			t.Fatal("JoinKeep", storeText(store), key, "got", storeText(got), ok, "want", storeText(want), has)
		}
	}
	got, ok := impl.RepairAll(store)
	if want, has := modelRepair(store); ok != has || !sameStore(got, want) {
		t.Fatal("RepairAll", storeText(store), "got", storeText(got), ok, "want", storeText(want), has)
	}
	is, ok := impl.IsPlaced(store)
	if want := modelIsPlaced(store); is != want || !ok {
		t.Fatal("IsPlaced", storeText(store), "got", is, ok, "want", want)
	}
}

func TestStoresByModel(t *testing.T) {
	for _, s := range fewSpaces() {
		for _, m := range someFewRings(s) {
			for _, store := range storesOn(s, m) {
				checkStoreByModel(t, store)
			}
		}
	}
}
