package tests

import (
	"math"
	"testing"

	"loop.example/g00749/impl"
)

// Promise 18 for chapter 8: the zero answer for all that is wrong.

func shortStore(t impl.Store) string {
	short := impl.Store{Space: t.Space, Copies: t.Copies}
	for _, keep := range t.Keeps[:min(len(t.Keeps), 17)] {
		short.Keeps = append(short.Keeps, impl.Keep{Id: keep.Id, Table: keep.Table[:min(len(keep.Table), 9)]})
	}
	return storeText(short)
}

func wantZeroStore(t *testing.T, name string, was, got impl.Store, ok bool) {
	t.Helper()
	if ok || !sameStore(got, impl.Store{}) {
		t.Fatal(name, shortStore(was), "got", storeText(got), ok)
	}
}

func wantZeroGet(t *testing.T, store impl.Store, key int) {
	t.Helper()
	if val, ok := impl.GetKey(store, key); val != 0 || ok {
		t.Fatal("GetKey", shortStore(store), key, "got", val, ok)
	}
}

func wantZeroPut(t *testing.T, store impl.Store, key, val int) {
	t.Helper()
	got, ok := impl.PutKey(store, key, val)
	wantZeroStore(t, "PutKey", store, got, ok)
}

// Zero of all functions that take a key, a val or an Id.
func wantZeroOfStoreNumber(t *testing.T, store impl.Store, x int) {
	t.Helper()
	wantZeroPut(t, store, x, 0)
	wantZeroPut(t, store, x, 1000000)
	got, ok := impl.DropKey(store, x)
	wantZeroStore(t, "DropKey", store, got, ok)
	wantZeroGet(t, store, x)
	got, ok = impl.CrashKeep(store, x)
	wantZeroStore(t, "CrashKeep", store, got, ok)
	got, ok = impl.JoinKeep(store, x)
	wantZeroStore(t, "JoinKeep", store, got, ok)
}

func wantZeroOfStore(t *testing.T, store impl.Store) {
	t.Helper()
	if impl.GoodStore(store) {
		t.Fatal("wrong one taken", shortStore(store))
	}
	for _, x := range []int{0, 1, 2, -1, 4095, 4096} {
		wantZeroOfStoreNumber(t, store, x)
	}
	for _, keep := range store.Keeps[:min(len(store.Keeps), 3)] {
		wantZeroOfStoreNumber(t, store, keep.Id)
		if len(keep.Table) > 0 {
			wantZeroOfStoreNumber(t, store, keep.Table[0].Key)
		}
	}
	got, ok := impl.RepairAll(store)
	wantZeroStore(t, "RepairAll", store, got, ok)
	if is, ok := impl.IsPlaced(store); is || ok {
		t.Fatal("IsPlaced", shortStore(store), "got", is, ok)
	}
}

// wrongTries has a few good stores to make wrong ones of.
func wrongTries() []impl.Store {
	s, m := fourMembers()
	s16, m16 := sixteenMembers()
	wide := impl.Space{Bits: 12, Digit: 3}
	return []impl.Store{
		filledStore(s, m, 1, 9), filledStore(s, m, 0, 0), filledStore(s, []int{7}, 3, 5), filledStore(s16, m16, 2, 12),
		strayStore(s, m, 3, 4), filledStore(wide, []int{0, 1, 77, 4095}, 2, 9), filledStore(impl.Space{Bits: 1, Digit: 1}, []int{0, 1}, 1, 2),
	}
}

func TestWrongStores(t *testing.T) {
	for _, good := range wrongTries() {
		if !impl.GoodStore(good) {
			t.Fatal("good one refused", storeText(good))
		}
		wrong := wrongStores(good)
		if len(wrong) < 100 {
			t.Fatal("so few", len(wrong))
		}
		for _, store := range wrong {
			if modelGoodStore(store) {
				t.Fatal("good after all", shortStore(store))
			}
			wantZeroOfStore(t, store)
		}
	}
	wantZeroOfStore(t, impl.Store{})
}

// A store of one wrong table, wherever it is, with all others empty.
func TestStoresOfOneWrongTable(t *testing.T) {
	s, m := fourMembers()
	wrong := wrongTables(s)
	for at := range m {
		for i := at; i < len(wrong); i += 4 {
			store := modelNewStore(s, m, at%4)
			store.Keeps[at].Table = wrong[i]
			wantZeroOfStore(t, store)
		}
	}
}

func TestStoresOfWrongNumbers(t *testing.T) {
	for _, s := range fewSpaces() {
		for _, m := range someFewRings(s) {
			for i, store := range storesOn(s, m) {
				for _, x := range wrongNumbers(s) {
					wantZeroOfStoreNumber(t, store, x)
				}
				key := keysToAskOf(store)[i%5]
				for _, val := range wrongVals() {
					wantZeroPut(t, store, key, val)
					wantZeroPut(t, store, -1, val)
				}
			}
		}
	}
}

// Keys that are the same as one that is there but for what lies above the
// space's numbers.
func TestKeysThatWrapAround(t *testing.T) {
	s, m := fourMembers()
	for copies := range 4 {
		store := filledStore(s, m, copies, 5)
		for key := range 16 {
			for _, x := range []int{key + 16, key - 16, key + 1<<32, key - 1<<62, key + math.MinInt} {
				wantZeroOfStoreNumber(t, store, x)
			}
		}
	}
}

func wantNoHolders(t *testing.T, s impl.Space, m []int, key, copies int) {
	t.Helper()
	if got, ok := impl.HoldersOf(s, m, key, copies); len(got) != 0 || ok {
		t.Fatal("HoldersOf", s, m[:min(len(m), 17)], key, copies, "got", got, ok)
	}
}

func wantNoNew(t *testing.T, s impl.Space, m []int, copies int) {
	t.Helper()
	got, ok := impl.NewStore(s, m, copies)
	wantZeroStore(t, "NewStore", modelNewStore(s, m[:min(len(m), 17)], copies), got, ok)
}

func wrongCopies() []int {
	return []int{-1, -2, 4, 5, 16, 1 << 32, 1<<32 + 1, math.MaxInt, math.MinInt, math.MinInt + 1}
}

func TestWrongCopies(t *testing.T) {
	for _, s := range spacesUpTo(12) {
		for _, m := range someFewRings(s) {
			for _, copies := range wrongCopies() {
				wantNoNew(t, s, m, copies)
				wantNoHolders(t, s, m, m[0], copies)
				wantNoHolders(t, s, m, powerOf2(s.Bits)-1, copies)
			}
		}
	}
}

func TestStoresOfWrongRings(t *testing.T) {
	for _, s := range spacesUpTo(12) {
		for _, m := range wrongRings(s) {
			for copies := -1; copies <= 4; copies++ {
				wantNoNew(t, s, m, copies)
				wantNoHolders(t, s, m, 0, copies)
				wantNoHolders(t, s, m, powerOf2(s.Bits)-1, copies)
			}
		}
	}
}

func TestStoresOfWrongSpaces(t *testing.T) {
	for _, s := range wrongSpaces() {
		for _, m := range [][]int{nil, {0}, {1}, {0, 1}, {-1, 0}} {
			wantNoNew(t, s, m, 1)
			wantNoHolders(t, s, m, 0, 1)
			wantNoHolders(t, s, m, 1, 0)
			wantZeroOfStore(t, modelNewStore(s, m, 1))
		}
	}
}

func TestHoldersOfWrongKeys(t *testing.T) {
	for _, s := range spacesUpTo(12) {
		for _, m := range someFewRings(s) {
			for _, key := range wrongNumbers(s) {
				for copies := range 4 {
					wantNoHolders(t, s, m, key, copies)
				}
			}
		}
	}
}

// A store of one space is none of one with fewer numbers.
func TestStoresOfAnotherSpace(t *testing.T) {
	for _, s := range spacesUpTo(12) {
		if s.Bits == 1 {
			continue
		}
		top := powerOf2(s.Bits) - 1
		less := impl.Space{Bits: s.Bits - 1, Digit: 1}
		for _, good := range []impl.Store{
			modelNewStore(s, []int{top}, 0),
			modelNewStore(s, []int{0, top/2 + 1}, 1),
			filledStore(s, []int{0}, 3, 1),
		} {
			if !impl.GoodStore(good) {
				t.Fatal("good one refused", storeText(good))
			}
			good.Space = less
			wantZeroOfStore(t, good)
		}
	}
}
