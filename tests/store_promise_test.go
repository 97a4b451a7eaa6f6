package tests

import (
	"testing"

	"loop.example/g00749/impl"
)

// Promise 8: what is put is got, and repairing twice is repairing once.

// checkPutIsGot asks for a key that was put, for one that was dropped, and for
// all others, which are as they were.
func checkPutIsGot(t *testing.T, store impl.Store, key, val int) {
	t.Helper()
	put, ok := impl.PutKey(store, key, val)
	if ok {
		if got, one := impl.GetKey(put, key); got != val || !one {
			t.Fatal("put", storeText(store), key, val, "but got", got, one)
		}
		checkOthersStay(t, store, put, key)
	}
	dropped, ok := impl.DropKey(store, key)
	if _, has := impl.GetKey(store, key); ok && !has {
		t.Fatal("dropped what is not there", storeText(store), key)
	}
	if ok {
		if got, one := impl.GetKey(dropped, key); got != 0 || one {
			t.Fatal("dropped", storeText(store), key, "but got", got, one)
		}
		checkOthersStay(t, store, dropped, key)
	}
}

func checkOthersStay(t *testing.T, was, is impl.Store, key int) {
	t.Helper()
	if !impl.GoodStore(is) || is.Space != was.Space || is.Copies != was.Copies {
		t.Fatal("no good store", storeText(is))
	}
	for _, other := range keysToAskOf(was) {
		want, has := impl.GetKey(was, other)
		if got, ok := impl.GetKey(is, other); other != key && (got != want || ok != has) {
			t.Fatal(storeText(was), "changed at", key, "but got of", other, got, ok)
		}
	}
	for i, keep := range is.Keeps {
		for _, row := range was.Keeps[i].Table {
			if now, has := modelRowFor(keep.Table, row.Key); row.Key != key && (!has || now != row) {
				t.Fatal(storeText(was), "changed at", key, "but at", keep.Id, "is", tableText(keep.Table))
			}
		}
	}
}

func checkTwiceIsOnce(t *testing.T, store impl.Store) {
	t.Helper()
	once, ok := impl.RepairAll(store)
	is, one := impl.IsPlaced(store)
	if !one || is != (ok && sameStore(once, store)) {
		t.Fatal("placed", storeText(store), "got", is, one)
	}
	if !ok {
		return
	}
	twice, ok := impl.RepairAll(once)
	if !ok || !sameStore(twice, once) || !impl.GoodStore(once) {
		t.Fatal("twice is not once", storeText(store), "got", storeText(once), storeText(twice), ok)
	}
	if is, ok := impl.IsPlaced(once); !is || !ok || !modelIsPlaced(once) {
		t.Fatal("repaired but not placed", storeText(once), is, ok)
	}
}

func TestPromise8(t *testing.T) {
	for _, s := range fewSpaces() {
		for _, m := range someFewRings(s) {
			for _, store := range storesOn(s, m) {
				checkTwiceIsOnce(t, store)
				for i, key := range keysToAskOf(store) {
					checkPutIsGot(t, store, key, []int{0, 1, 999999, 1000000, i}[i%5])
				}
			}
		}
	}
}

// Every store of two numbers with any two tables.
func TestPromise8EveryStore(t *testing.T) {
	rows := []impl.Row{{Ver: 1}, {Ver: 1, Val: 2}, {Ver: 1, Gone: true}, {Ver: 1000000}, {Ver: 1000000, Gone: true}}
	s := impl.Space{Bits: 1, Digit: 1}
	tables := everyTable(s, rows)
	for copies := range 4 {
		for _, a := range tables {
			for key := range 2 {
				checkStoreAnyhow(t, impl.Store{Space: s, Copies: copies, Keeps: []impl.Keep{{Id: key, Table: a}}})
			}
			for _, b := range tables {
				checkStoreAnyhow(t, impl.Store{Space: s, Copies: copies, Keeps: []impl.Keep{{Id: 0, Table: a}, {Id: 1, Table: b}}})
			}
		}
	}
}

func checkStoreAnyhow(t *testing.T, store impl.Store) {
	t.Helper()
	checkTwiceIsOnce(t, store)
	checkStoreByModel(t, store)
	for key := range powerOf2(store.Space.Bits) {
		checkPutIsGot(t, store, key, 1)
	}
}

// Three members of four numbers, each with one row of any of these or none.
func TestPromise8EveryShortStore(t *testing.T) {
	s := impl.Space{Bits: 2, Digit: 1}
	tables := [][]impl.Row{nil}
	for key := range 4 {
		for _, row := range []impl.Row{{Ver: 1, Val: 1}, {Ver: 2}, {Ver: 2, Gone: true}} {
			row.Key = key
			tables = append(tables, []impl.Row{row})
		}
	}
	for i, a := range tables {
		for k, b := range tables {
			for n, c := range tables {
				if (i+k+n)%3 != 0 {
					continue
				}
				store := modelNewStore(s, []int{0, 1, 3}, (i+k)%4)
				store.Keeps[0].Table, store.Keeps[1].Table, store.Keeps[2].Table = a, b, c
				checkTwiceIsOnce(t, store)
				checkStoreByModel(t, store)
			}
		}
	}
}

// A long life: keys put and dropped, members that join and crash, repaired
// each time. No more crash at once than there are copies, so that nothing that
// was put is lost.
func TestWhatIsPutStays(t *testing.T) {
	for _, s := range fewSpaces() {
		for copies := range 4 {
			liveOn(t, s, copies, 12*s.Bits+copies)
		}
	}
}

func liveOn(t *testing.T, s impl.Space, copies, seed int) {
	t.Helper()
	size := powerOf2(s.Bits)
	next := func(below int) int {
		seed = (seed*1103515245 + 12345) % (1 << 31)
		return seed / 7 % below
	}
	store, ok := impl.NewStore(s, []int{next(size)}, copies)
	if !ok {
		t.Fatal("no store")
	}
	plain := map[int]int{}
	for turn := range 120 {
		key := next(size)
		if put, ok := impl.PutKey(store, key, turn); ok {
			store, plain[key] = put, turn
		}
		key = next(size)
		if dropped, ok := impl.DropKey(store, key); ok {
			store = dropped
			delete(plain, key)
		}
		store = moved(t, store, next)
		for x := range min(size, 300) {
			want, has := plain[x]
			if got, ok := impl.GetKey(store, x); got != want || ok != has {
				t.Fatal(s, copies, "turn", turn, x, "got", got, ok, "want", want, has, storeText(store))
			}
		}
	}
}

// moved has a store behind one join, or as many crashes as copies make good,
// and a repair, where there is room for what each one then holds.
func moved(t *testing.T, store impl.Store, next func(below int) int) impl.Store {
	t.Helper()
	after := store
	switch next(3) {
	case 0:
		if more, ok := impl.JoinKeep(store, next(powerOf2(store.Space.Bits))); ok {
			after = more
		}
	case 1:
		for range store.Copies {
			if less, ok := impl.CrashKeep(after, after.Keeps[next(len(after.Keeps))].Id); ok {
				after = less
			}
		}
	}
	repaired, ok := impl.RepairAll(after)
	if !ok {
		return store
	}
	if is, one := impl.IsPlaced(repaired); !is || !one {
		t.Fatal("repaired but not placed", storeText(repaired))
	}
	return repaired
}

// Each of the owners that follow one another tells what was put, as long as no
// more than the copies have crashed.
func TestPutIsGotWhereOwnersCrash(t *testing.T) {
	for _, s := range fewSpaces() {
		for _, m := range someFewRings(s) {
			for copies := range 4 {
				for _, key := range append(endsOf(s), m[0], oneUp(s, m[len(m)-1])) {
					store := modelNewStore(s, m, copies)
					store, ok := impl.PutKey(store, key, 50)
					if !ok {
						t.Fatal("not put", s, m, key)
					}
					crashWhile(t, store, key, min(copies+1, len(m)))
				}
			}
		}
	}
}

// crashWhile has the owner crash until none of so many holders is left.
func crashWhile(t *testing.T, store impl.Store, key, holders int) {
	t.Helper()
	for left := holders; left > 0; left-- {
		if val, ok := impl.GetKey(store, key); val != 50 || !ok {
			t.Fatal(left, "holders are left, but got", val, ok, storeText(store))
		}
		owner, _ := impl.OwnerOf(store.Space, modelStoreRing(store), key)
		less, ok := impl.CrashKeep(store, owner)
		if ok != (len(store.Keeps) > 1) {
			t.Fatal("crash", owner, storeText(store), ok)
		}
		if !ok {
			return
		}
		store = less
	}
	if val, ok := impl.GetKey(store, key); val != 0 || ok {
		t.Fatal("no holder is left, but got", val, ok, storeText(store))
	}
}

// Rows are gone through by way of maps: nothing is to be seen of that.
func TestStoresAreInOrderEachTime(t *testing.T) {
	s, m := manyMembers(8)
	for copies := range 2 {
		store := modelNewStore(s, m, copies)
		for i := range store.Keeps {
			store.Keeps[i].Table = rowsAt(8*((i+3)%16), 8-4*copies)
		}
		want, has := modelRepair(store)
		put, can := modelPutKey(store, 31, 5)
		for range 100 {
			if got, ok := impl.RepairAll(store); ok != has || !sameStore(got, want) {
				t.Fatal("repaired", storeText(got), ok)
			}
			if got, ok := impl.PutKey(store, 31, 5); ok != can || !sameStore(got, put) {
				t.Fatal("put", storeText(got), ok)
			}
		}
	}
}
