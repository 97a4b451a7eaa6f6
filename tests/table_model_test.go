package tests

import (
	"math"
	"strings"

	"loop.example/g00749/impl"
)

// What chapter 7 says, worked out the slow way: by going through all numbers
// of the space and asking at each what its row is.

func modelGoodTable(s impl.Space, t []impl.Row) bool {
	if !modelGoodSpace(s) || len(t) > 8 {
		return false
	}
	for i, row := range t {
		for _, other := range t[:i] {
			if other.Key >= row.Key {
				return false
			}
		}
		if row.Key < 0 || row.Key >= powerOf2(s.Bits) || row.Ver < 1 || row.Ver > 1000000 || row.Val < 0 || row.Val > 1000000 {
			return false
		}
		if row.Gone && row.Val != 0 {
			return false
		}
	}
	return true
}

func modelRowFor(t []impl.Row, key int) (impl.Row, bool) {
	for _, row := range t {
		if row.Key == key {
			return row, true
		}
	}
	return impl.Row{}, false
}

// tableWhere has the rows that are told at the numbers of a space, in order.
func tableWhere(s impl.Space, at func(x int) (impl.Row, bool)) []impl.Row {
	var t []impl.Row
	for x := 0; x < powerOf2(s.Bits); x++ {
		if row, ok := at(x); ok {
			t = append(t, row)
		}
	}
	return t
}

func modelSetRow(s impl.Space, t []impl.Row, set impl.Row) []impl.Row {
	return tableWhere(s, func(x int) (impl.Row, bool) {
		if x == set.Key {
			return set, true
		}
		return modelRowFor(t, x)
	})
}

func modelPut(s impl.Space, t []impl.Row, key, val int) ([]impl.Row, bool) {
	if !modelGoodTable(s, t) || key < 0 || key >= powerOf2(s.Bits) || val < 0 || val > 1000000 {
		return nil, false
	}
	was, has := modelRowFor(t, key)
	if !has && len(t) == 8 || has && was.Ver == 1000000 {
		return nil, false
	}
	return modelSetRow(s, t, impl.Row{Key: key, Ver: was.Ver + 1, Val: val}), true
}

func modelDrop(s impl.Space, t []impl.Row, key int) ([]impl.Row, bool) {
	was, has := modelRowFor(t, key)
	if !modelGoodTable(s, t) || !has || was.Gone || was.Ver == 1000000 {
		return nil, false
	}
	return modelSetRow(s, t, impl.Row{Key: key, Ver: was.Ver + 1, Gone: true}), true
}

// weightOf is greater for the row that stays: first the Ver counts, then
// whether it is Gone, then the Val.
func weightOf(row impl.Row) int {
	if row.Gone {
		return row.Ver*3000000 + 2000000
	}
	return row.Ver*3000000 + row.Val
}

func modelJoinTables(s impl.Space, a, b []impl.Row) ([]impl.Row, bool) {
	if !modelGoodTable(s, a) || !modelGoodTable(s, b) {
		return nil, false
	}
	t := tableWhere(s, func(x int) (impl.Row, bool) {
		row, has := modelRowFor(a, x)
		other, too := modelRowFor(b, x)
		if !has || too && weightOf(other) > weightOf(row) {
			return other, too
		}
		return row, true
	})
	if len(t) > 8 {
		return nil, false
	}
	return t, true
}

func modelRowsIn(s impl.Space, t []impl.Row, from, to int) []impl.Row {
	return tableWhere(s, func(x int) (impl.Row, bool) {
		if !modelInArc(s, from, x, to) {
			return impl.Row{}, false
		}
		return modelRowFor(t, x)
	})
}

func sameRows(a, b []impl.Row) bool {
	if len(a) != len(b) {
		return false
	}
	for i := range a {
		if a[i] != b[i] {
			return false
		}
	}
	return true
}

func rowText(row impl.Row) string {
	return numbersText([]int{row.Key, row.Ver, row.Val}) + answerText(row.Gone)
}

func tableText(t []impl.Row) string {
	var text strings.Builder
	for _, row := range t {
		text.WriteString(rowText(row) + ";")
	}
	return text.String()
}

func cloneTable(t []impl.Row) []impl.Row {
	c := make([]impl.Row, len(t))
	copy(c, t)
	return c
}

// edgeRows has rows of a key with what is the least and the greatest, and with
// what lies between.
func edgeRows(key int) []impl.Row {
	return []impl.Row{
		{Key: key, Ver: 1}, {Key: key, Ver: 1, Val: 1000000}, {Key: key, Ver: 1, Gone: true},
		{Key: key, Ver: 2, Val: 1}, {Key: key, Ver: 2, Val: 999999}, {Key: key, Ver: 500, Val: 3}, {Key: key, Ver: 500, Gone: true},
		{Key: key, Ver: 999999}, {Key: key, Ver: 999999, Val: 7}, {Key: key, Ver: 999999, Gone: true},
		{Key: key, Ver: 1000000}, {Key: key, Ver: 1000000, Val: 1000000}, {Key: key, Ver: 1000000, Gone: true},
	}
}

// tableAt has a table with these keys, and a row of edgeRows at each as a seed
// has it.
func tableAt(keys []int, seed int) []impl.Row {
	var t []impl.Row
	for _, key := range keys {
		seed = (seed*1103515245 + 12345) % (1 << 31)
		edges := edgeRows(key)
		t = append(t, edges[seed/7%len(edges)])
	}
	return t
}

// keysOfTables has rising lists of at most 8 numbers of a space: none, one,
// both ends, as many as there may be, crowded at an end, and spread.
func keysOfTables(s impl.Space) [][]int {
	size := powerOf2(s.Bits)
	sets := [][]int{nil, {0}, {size - 1}, {size / 2}, {0, size - 1}}
	for _, many := range []int{2, 3, 7, 8} {
		if many > size {
			continue
		}
		low, high, even := make([]int, many), make([]int, many), make([]int, many)
		for i := range low {
			low[i], high[i], even[i] = i, size-many+i, i*(size/many)
		}
		sets = append(sets, low, high, even)
	}
	return sets
}

// someTables has good tables of a space.
func someTables(s impl.Space) [][]impl.Row {
	size := powerOf2(s.Bits)
	tables := [][]impl.Row{nil, {}}
	for _, key := range []int{0, size - 1} {
		for _, row := range edgeRows(key) {
			tables = append(tables, []impl.Row{row})
		}
	}
	for i, keys := range keysOfTables(s) {
		for seed := 1; seed <= 4; seed++ {
			tables = append(tables, tableAt(keys, 17*i+seed))
		}
	}
	return tables
}

// keysToAsk has numbers of a space to ask a table with: its keys, those below
// and above each, and both ends.
func keysToAsk(s impl.Space, t []impl.Row) []int {
	keys := endsOf(s)
	for _, row := range t {
		keys = append(keys, oneDown(s, row.Key), row.Key, oneUp(s, row.Key))
	}
	return keys
}

func wrongVals() []int {
	return []int{-1, -1000000, 1000001, 1000002, 1 << 32, 1<<32 + 1, math.MaxInt, math.MinInt}
}

func wrongVers() []int {
	return append([]int{0}, wrongVals()...)
}

// wrongRows has rows that miss being good by one thing each.
func wrongRows(s impl.Space, good impl.Row) []impl.Row {
	var wrong []impl.Row
	for _, key := range wrongNumbers(s) {
		row := good
		row.Key = key
		wrong = append(wrong, row)
	}
	for _, ver := range wrongVers() {
		row := good
		row.Ver = ver
		wrong = append(wrong, row)
	}
	for _, gone := range []bool{false, true} {
		for _, val := range wrongVals() {
			wrong = append(wrong, impl.Row{Key: good.Key, Ver: good.Ver, Val: val, Gone: gone})
		}
	}
	for _, val := range []int{1, 2, 999999, 1000000} {
		wrong = append(wrong, impl.Row{Key: good.Key, Ver: good.Ver, Val: val, Gone: true})
	}
	return wrong
}

// wrongTables has tables that are none of the space: one wrong row at each
// place, keys that do not rise, and too many rows.
func wrongTables(s impl.Space) [][]impl.Row {
	var wrong [][]impl.Row
	for i, keys := range keysOfTables(s) {
		good := tableAt(keys, i+1)
		for place := range good {
			for _, row := range wrongRows(s, good[place]) {
				t := cloneTable(good)
				t[place] = row
				wrong = append(wrong, t)
			}
			if place == 0 {
				continue
			}
			alike, swapped := cloneTable(good), cloneTable(good)
			alike[place].Key = alike[place-1].Key
			swapped[place], swapped[place-1] = swapped[place-1], swapped[place]
			wrong = append(wrong, alike, swapped)
		}
		if len(good) > 0 {
			wrong = append(wrong, append(cloneTable(good), good[0]), append(cloneTable(good), good[len(good)-1]))
		}
	}
	return append(wrong, longTables(s)...)
}

// longTables has tables with more rows than there may be, rising as far as the
// space has numbers.
func longTables(s impl.Space) [][]impl.Row {
	var long [][]impl.Row
	for _, many := range []int{9, 10, 16, 100, 100000} {
		t := make([]impl.Row, many)
		for i := range t {
			t[i] = impl.Row{Key: i % powerOf2(s.Bits), Ver: 1, Val: i % 9}
		}
		long = append(long, t)
	}
	return long
}
