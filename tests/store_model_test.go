package tests

import (
	"strings"

	"loop.example/g00749/impl"
)

// What chapter 8 says, worked out the slow way: by going up number by number
// from a key until there are as many holders as there are to be, and by asking
// at each number which row is there.

func modelHolders(s impl.Space, m []int, key, copies int) []int {
	var l []int
	x := key
	for range powerOf2(s.Bits) {
		if contains(m, x) && len(l) <= copies {
			l = append(l, x)
		}
		x = oneUp(s, x)
	}
	return l
}

func modelStoreRing(t impl.Store) []int {
	var m []int
	for _, keep := range t.Keeps {
		m = append(m, keep.Id)
	}
	return m
}

func modelGoodStore(t impl.Store) bool {
	if t.Copies < 0 || t.Copies > 3 || !modelGoodRing(t.Space, modelStoreRing(t)) {
		return false
	}
	for _, keep := range t.Keeps {
		if !modelGoodTable(t.Space, keep.Table) {
			return false
		}
	}
	return true
}

func modelNewStore(s impl.Space, m []int, copies int) impl.Store {
	t := impl.Store{Space: s, Copies: copies}
	for _, id := range m {
		t.Keeps = append(t.Keeps, impl.Keep{Id: id})
	}
	return t
}

func modelTableOf(t impl.Store, id int) []impl.Row {
	for _, keep := range t.Keeps {
		if keep.Id == id {
			return keep.Table
		}
	}
	return nil
}

// modelLaid has a store with a row of the owner's new table at all holders of
// its key, where all have room.
func modelLaid(t impl.Store, key int, rows []impl.Row, ok bool) (impl.Store, bool) {
	if !ok {
		return impl.Store{}, false
	}
	row, _ := modelRowFor(rows, key)
	holders := modelHolders(t.Space, modelStoreRing(t), key, t.Copies)
	laid := impl.Store{Space: t.Space, Copies: t.Copies}
	for _, keep := range t.Keeps {
		table := cloneTable(keep.Table)
		if contains(holders, keep.Id) {
			table = modelSetRow(t.Space, table, row)
		}
		if len(table) > 8 {
			return impl.Store{}, false
		}
		laid.Keeps = append(laid.Keeps, impl.Keep{Id: keep.Id, Table: table})
	}
	return laid, true
}

func modelOwnerTable(t impl.Store, key int) []impl.Row {
	return modelTableOf(t, modelOwner(t.Space, modelStoreRing(t), key))
}

// The models of what is asked of a store take keys of its space.

func modelPutKey(t impl.Store, key, val int) (impl.Store, bool) {
	rows, ok := modelPut(t.Space, modelOwnerTable(t, key), key, val)
	return modelLaid(t, key, rows, ok)
}

func modelDropKey(t impl.Store, key int) (impl.Store, bool) {
	rows, ok := modelDrop(t.Space, modelOwnerTable(t, key), key)
	return modelLaid(t, key, rows, ok)
}

func modelGetKey(t impl.Store, key int) (int, bool) {
	row, has := modelRowFor(modelOwnerTable(t, key), key)
	return row.Val, has && !row.Gone
}

func modelCrash(t impl.Store, id int) (impl.Store, bool) {
	if !contains(modelStoreRing(t), id) || len(t.Keeps) == 1 {
		return impl.Store{}, false
	}
	return modelOn(t, modelLeave(t.Space, modelStoreRing(t), id)), true
}

func modelJoinKeep(t impl.Store, id int) (impl.Store, bool) {
	if id < 0 || id >= powerOf2(t.Space.Bits) || contains(modelStoreRing(t), id) || len(t.Keeps) == 16 {
		return impl.Store{}, false
	}
	return modelOn(t, modelJoin(t.Space, modelStoreRing(t), id)), true
}

// modelOn has a store with other members, each with the table it has there.
func modelOn(t impl.Store, m []int) impl.Store {
	other := impl.Store{Space: t.Space, Copies: t.Copies}
	for _, id := range m {
		other.Keeps = append(other.Keeps, impl.Keep{Id: id, Table: cloneTable(modelTableOf(t, id))})
	}
	return other
}

// modelStays has the row of a key that counts, of all that the store has.
func modelStays(t impl.Store, key int) (impl.Row, bool) {
	var stays impl.Row
	found := false
	for _, keep := range t.Keeps {
		row, has := modelRowFor(keep.Table, key)
		if has && (!found || weightOf(row) > weightOf(stays)) {
			stays, found = row, true
		}
	}
	return stays, found
}

func modelRepair(t impl.Store) (impl.Store, bool) {
	m := modelStoreRing(t)
	repaired := impl.Store{Space: t.Space, Copies: t.Copies}
	for _, id := range m {
		table := tableWhere(t.Space, func(x int) (impl.Row, bool) {
			row, has := modelStays(t, x)
			return row, has && contains(modelHolders(t.Space, m, x, t.Copies), id)
		})
		if len(table) > 8 {
			return impl.Store{}, false
		}
		repaired.Keeps = append(repaired.Keeps, impl.Keep{Id: id, Table: table})
	}
	return repaired, true
}

// modelIsPlaced asks of each number whether its holders, and no others, have
// the row of it that counts.
func modelIsPlaced(t impl.Store) bool {
	m := modelStoreRing(t)
	for x := range powerOf2(t.Space.Bits) {
		want, found := modelStays(t, x)
		if !found {
			continue
		}
		holders := modelHolders(t.Space, m, x, t.Copies)
		for _, keep := range t.Keeps {
			row, has := modelRowFor(keep.Table, x)
			if has != contains(holders, keep.Id) || has && row != want {
				return false
			}
		}
	}
	return true
}

func sameStore(a, b impl.Store) bool {
	if a.Space != b.Space || a.Copies != b.Copies || len(a.Keeps) != len(b.Keeps) {
		return false
	}
	for i := range a.Keeps {
		if a.Keeps[i].Id != b.Keeps[i].Id || !sameRows(a.Keeps[i].Table, b.Keeps[i].Table) {
			return false
		}
	}
	return true
}

func storeText(t impl.Store) string {
	var text strings.Builder
	text.WriteString(numbersText([]int{t.Space.Bits, t.Space.Digit, t.Copies}))
	for _, keep := range t.Keeps {
		text.WriteString("| " + numbersText([]int{keep.Id}) + ": " + tableText(keep.Table))
	}
	return text.String()
}

func cloneStore(t impl.Store) impl.Store {
	c := t
	c.Keeps = make([]impl.Keep, len(t.Keeps))
	for i, keep := range t.Keeps {
		c.Keeps[i] = impl.Keep{Id: keep.Id, Table: cloneTable(keep.Table)}
	}
	return c
}

// filledStore has a store with as many keys put as it takes, spread over the
// space, some dropped again.
func filledStore(s impl.Space, m []int, copies, many int) impl.Store {
	t := modelNewStore(s, m, copies)
	size := powerOf2(s.Bits)
	for i := range many {
		key := (i*(size/5*2+1) + size - 1) % size
		if next, ok := modelPutKey(t, key, i*111); ok {
			t = next
		}
		if next, ok := modelDropKey(t, key); ok && i%4 == 3 {
			t = next
		}
	}
	return t
}

// strayStore has tables of any keys at any member.
func strayStore(s impl.Space, m []int, copies, seed int) impl.Store {
	t := modelNewStore(s, m, copies)
	sets := keysOfTables(s)
	for i := range t.Keeps {
		at := i*7 + seed*5
		t.Keeps[i].Table = tableAt(sets[at%len(sets)], at)
	}
	return t
}

// storesOn has good stores of a ring: empty, with few keys and with many that
// are where they belong, one that lost a member, one that has a new one, and
// with tables that stand anyhow.
func storesOn(s impl.Space, m []int) []impl.Store {
	var stores []impl.Store
	for copies := range 4 {
		few, many := filledStore(s, m, copies, 3), filledStore(s, m, copies, 12)
		stores = append(stores, modelNewStore(s, m, copies), few, many)
		if less, ok := modelCrash(many, m[len(m)/2]); ok {
			stores = append(stores, less)
		}
		for _, x := range endsOf(s) {
			if more, ok := modelJoinKeep(many, x); ok {
				stores = append(stores, more)
				break
			}
		}
		stores = append(stores, strayStore(s, m, copies, copies), strayStore(s, m, copies, copies+9))
	}
	return stores
}

// keysToAskOf has numbers of a space to ask a store with: some keys that it
// has, its members and the numbers behind them, and both ends.
func keysToAskOf(t impl.Store) []int {
	s := t.Space
	keys := endsOf(s)
	for i, keep := range t.Keeps {
		if i < 4 || i == len(t.Keeps)-1 {
			keys = append(keys, keep.Id, oneUp(s, keep.Id))
		}
		for k, row := range keep.Table {
			if k == i%8 || k == len(keep.Table)-1 {
				keys = append(keys, row.Key)
			}
		}
	}
	return keys
}

// changedStore is a copy of a store with a change made to it.
func changedStore(t impl.Store, change func(t *impl.Store)) impl.Store {
	c := cloneStore(t)
	change(&c)
	return c
}

// wrongStores has stores that miss being good by one thing each.
func wrongStores(good impl.Store) []impl.Store {
	wrong := []impl.Store{
		changedStore(good, func(t *impl.Store) { t.Keeps = nil }),
		changedStore(good, func(t *impl.Store) { t.Keeps = t.Keeps[:0] }),
	}
	for _, copies := range []int{-1, -2, 4, 5, 1 << 32, -1 << 63, 1<<63 - 1} {
		wrong = append(wrong, changedStore(good, func(t *impl.Store) { t.Copies = copies }))
	}
	for i, s := range wrongSpaces() {
		if i%5 == 0 || s.Bits == good.Space.Bits {
			wrong = append(wrong, changedStore(good, func(t *impl.Store) { t.Space = s }))
		}
	}
	for _, m := range wrongRings(good.Space) {
		if len(m) > 0 {
			wrong = append(wrong, modelNewStore(good.Space, m, good.Copies))
		}
	}
	tables := wrongTables(good.Space)
	for i, keep := range good.Keeps {
		for _, id := range wrongNumbers(good.Space) {
			wrong = append(wrong, changedStore(good, func(t *impl.Store) { t.Keeps[i].Id = id }))
		}
		if i > 0 {
			wrong = append(wrong,
				changedStore(good, func(t *impl.Store) { t.Keeps[i].Id = t.Keeps[i-1].Id }),
				changedStore(good, func(t *impl.Store) { t.Keeps[i], t.Keeps[i-1] = t.Keeps[i-1], t.Keeps[i] }),
				changedStore(good, func(t *impl.Store) { t.Keeps[i-1].Id = keep.Id }))
		}
		for k := i % 11; k < len(tables); k += 11 + len(tables)/40 {
			wrong = append(wrong, changedStore(good, func(t *impl.Store) { t.Keeps[i].Table = tables[k] }))
		}
	}
	return wrong
}
