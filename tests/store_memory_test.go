package tests

import (
	"sync"
	"testing"

	"loop.example/g00749/impl"
)

// Promise 18 for chapter 8: nothing written into stores, rings and tables that
// are handed in, nor behind their length, and answers that are new memory.

// storeInMemory has a store in the midst of more memory: its Keeps, and the
// table of each, those behind the length of Keeps too.
type storeInMemory struct {
	keeps  []impl.Keep
	tables [][]impl.Row
	store  impl.Store
}

func layOutStore(t impl.Store, behind int) storeInMemory {
	lay := storeInMemory{keeps: make([]impl.Keep, len(t.Keeps)+5)}
	for i := range lay.keeps {
		// Behind the last one the Ids go on rising, as far as there are
		// numbers.
		lay.keeps[i] = impl.Keep{Id: behind + i, Table: rowsAt(0, 2)}
	}
	copy(lay.keeps[2:], t.Keeps)
	for i := range lay.keeps {
		whole, table := tableInMemory(lay.keeps[i].Table, behind)
		lay.tables = append(lay.tables, whole)
		lay.keeps[i].Table = table
	}
	lay.store = impl.Store{Space: t.Space, Copies: t.Copies, Keeps: lay.keeps[2 : 2+len(t.Keeps)]}
	return lay
}

// text tells all of it, what lies behind each length too.
func (lay storeInMemory) text() string {
	text := storeText(impl.Store{Keeps: lay.keeps}) + storeText(lay.store)
	for _, whole := range lay.tables {
		text += tableText(whole) + "|"
	}
	return text
}

// spoilStore writes over all of an answer, behind each length too.
func spoilStore(t impl.Store) {
	keeps := t.Keeps[:cap(t.Keeps)]
	for i := range keeps {
		spoilRows(keeps[i].Table)
		keeps[i] = impl.Keep{Id: -77, Table: []impl.Row{{Key: -77}}}
	}
}

// spoiledStore tells an answer, and writes over it.
func spoiledStore(t impl.Store, ok bool) string {
	text := storeText(t) + answerText(ok)
	spoilStore(t)
	return text
}

// allStoreAnswers asks all functions of a store, tells what they answer, and
// writes over that.
func allStoreAnswers(store impl.Store, key, val int) string {
	text := answerText(impl.GoodStore(store))
	next, ok := impl.PutKey(store, key, val)
	text += spoiledStore(next, ok)
	next, ok = impl.DropKey(store, key)
	text += spoiledStore(next, ok)
	got, ok := impl.GetKey(store, key)
	text += numbersText([]int{got}) + answerText(ok)
	next, ok = impl.CrashKeep(store, key)
	text += spoiledStore(next, ok)
	next, ok = impl.JoinKeep(store, key)
	text += spoiledStore(next, ok)
	next, ok = impl.RepairAll(store)
	text += spoiledStore(next, ok)
	is, ok := impl.IsPlaced(store)
	return text + answerText(is) + answerText(ok)
}

func checkStoreStays(t *testing.T, store impl.Store, key, val int) {
	t.Helper()
	want := allStoreAnswers(cloneStore(store), key, val)
	for _, behind := range []int{key - len(store.Keeps) - 3, 0, -1000} {
		lay := layOutStore(store, behind)
		was := lay.text()
		got := allStoreAnswers(lay.store, key, val)
		if lay.text() != was {
			t.Fatal("a store changed, or shared with an answer", was, lay.text())
		}
		if got != want {
			t.Fatal("hangs on what lies behind a list", storeText(store), key, val, got, want)
		}
	}
}

func TestStoresStayAsTheyWere(t *testing.T) {
	for _, s := range fewSpaces() {
		for _, m := range someFewRings(s) {
			for i, store := range storesOn(s, m) {
				keys := keysToAskOf(store)
				for k := i % 3; k < len(keys); k += 3 {
					checkStoreStays(t, store, keys[k], k)
				}
				checkStoreStays(t, store, -1, 3)
				checkStoreStays(t, store, m[0], -1)
			}
		}
	}
}

func TestWrongStoresStayAsTheyWere(t *testing.T) {
	for _, good := range wrongTries() {
		wrong := wrongStores(good)
		for i := 0; i < len(wrong); i += 3 {
			if len(wrong[i].Keeps) < 20 {
				checkStoreStays(t, wrong[i], good.Keeps[0].Id, 3)
			}
		}
	}
}

func TestRingsOfStoresStayAsTheyWere(t *testing.T) {
	for _, s := range fewSpaces() {
		for _, m := range append(someFewRings(s), someWrongAndGood(s)...) {
			if len(m) > 100 {
				continue
			}
			whole, ring := ringInMemory(m)
			was := numbersText(whole)
			for copies := -1; copies <= 4; copies++ {
				for _, key := range endsOf(s) {
					holders, ok := impl.HoldersOf(s, ring, key, copies)
					want, has := impl.HoldersOf(s, m, key, copies)
					if ok != has || !sameList(holders, want) {
						t.Fatal("hangs on what lies behind the ring", s, m, key, copies, holders, want)
					}
					spoil(holders)
					spoil(want)
				}
				fresh, ok := impl.NewStore(s, ring, copies)
				want, has := impl.NewStore(s, m, copies)
				if ok != has || !sameStore(fresh, want) {
					t.Fatal("hangs on what lies behind the ring", s, m, copies, storeText(fresh))
				}
				spoilStore(fresh)
			}
			if numbersText(whole) != was {
				t.Fatal("a ring changed, or shared with an answer", was, numbersText(whole))
			}
		}
	}
}

// answersOf has every store that the functions make of one.
func answersOf(store impl.Store, key int) []impl.Store {
	put, _ := impl.PutKey(store, key, 4)
	dropped, _ := impl.DropKey(store, key)
	less, _ := impl.CrashKeep(store, store.Keeps[len(store.Keeps)-1].Id)
	first, _ := impl.CrashKeep(store, store.Keeps[0].Id)
	repaired, _ := impl.RepairAll(store)
	answers := []impl.Store{put, dropped, less, first, repaired}
	for _, x := range endsOf(store.Space) {
		more, _ := impl.JoinKeep(store, x)
		answers = append(answers, more)
	}
	fresh, _ := impl.NewStore(store.Space, modelStoreRing(store), store.Copies)
	return append(answers, fresh)
}

// keyOfSome has a key of a row that a store has, where it has one.
func keyOfSome(store impl.Store) int {
	for _, keep := range store.Keeps {
		for _, row := range keep.Table {
			if val, ok := impl.GetKey(store, row.Key); ok && val >= 0 {
				return row.Key
			}
		}
	}
	return store.Keeps[0].Id
}

// What was handed in may change later, and so may other answers: one that is
// there does not.
func TestStoresAreNewMemory(t *testing.T) {
	for _, s := range fewSpaces() {
		for _, m := range someFewRings(s) {
			for _, store := range storesOn(s, m) {
				given := cloneStore(store)
				answers := answersOf(given, keyOfSome(given))
				var texts []string
				for _, answer := range answers {
					texts = append(texts, storeText(answer))
				}
				spoilStore(given)
				for k, answer := range answers {
					if storeText(answer) != texts[k] {
						t.Fatal("an answer shares memory", storeText(store), k, storeText(answer), texts[k])
					}
					// Written over, it would show in one behind it that
					// shares memory.
					spoilStore(answer)
				}
			}
		}
	}
}

// Whatever is written into a table of an answer is not seen in another one.
func checkTablesApart(t *testing.T, store impl.Store) {
	t.Helper()
	for i, keep := range store.Keeps {
		rows := keep.Table[:cap(keep.Table)]
		for k := range rows {
			rows[k].Ver = i
		}
	}
	for i, keep := range store.Keeps {
		for _, row := range keep.Table[:cap(keep.Table)] {
			if row.Ver != i {
				t.Fatal("two tables of one answer share memory", storeText(store), i)
			}
		}
	}
}

func TestTablesOfOneStore(t *testing.T) {
	for _, s := range fewSpaces() {
		for _, m := range someFewRings(s) {
			for _, keys := range keysOfTables(s) {
				// All members with one table in one piece of memory.
				shared := tableAt(keys, 5)
				was := tableText(shared)
				for copies := range 4 {
					store := modelNewStore(s, m, copies)
					for i := range store.Keeps {
						store.Keeps[i].Table = shared
					}
					key := keyOfSome(store)
					for _, answer := range answersOf(store, key) {
						checkTablesApart(t, answer)
					}
				}
				if tableText(shared) != was {
					t.Fatal("an answer shares memory with an argument", was, tableText(shared))
				}
			}
		}
	}
}

func TestNothingIsKeptOfStores(t *testing.T) {
	store := filledStore(impl.Space{Bits: 6, Digit: 3}, []int{3, 20, 41, 60}, 2, 9)
	key := keyOfSome(store)
	want := allStoreAnswers(store, key, 5)
	for _, s := range fewSpaces() {
		for _, m := range someFewRings(s) {
			for _, other := range append(storesOn(s, m), impl.Store{}, impl.Store{Space: s, Copies: 9}) {
				allStoreAnswers(other, key, 5)
				if got := allStoreAnswers(store, key, 5); got != want {
					t.Fatal(got, want)
				}
			}
		}
	}
}

// Many may ask of the same store at one time.
func TestStoresAskedByManyAtOnce(t *testing.T) {
	s, m := fourMembers()
	store := strayStore(s, m, 2, 4)
	want := allStoreAnswers(store, 3, 5)
	var all sync.WaitGroup
	for range 20 {
		all.Go(func() {
			for range 20 {
				if got := allStoreAnswers(store, 3, 5); got != want {
					t.Error("got", got, "want", want)
				}
			}
		})
	}
	all.Wait()
}
