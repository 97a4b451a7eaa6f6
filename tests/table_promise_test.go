package tests

import (
	"testing"

	"loop.example/g00749/impl"
)

// Promise 7: joined both ways alike, and once as well as twice.
func checkPromise7(t *testing.T, s impl.Space, a, b []impl.Row) {
	t.Helper()
	one, ok := impl.JoinTables(s, a, b)
	other, too := impl.JoinTables(s, b, a)
	if ok != too || !sameRows(one, other) {
		t.Fatal("not both ways alike", s, tableText(a), tableText(b), "got", tableText(one), ok, tableText(other), too)
	}
	if !ok {
		return
	}
	if !impl.GoodTable(s, one) {
		t.Fatal("no table", s, tableText(a), tableText(b), "got", tableText(one))
	}
	for _, again := range [][]impl.Row{a, b, one} {
		twice, ok := impl.JoinTables(s, one, again)
		back, too := impl.JoinTables(s, again, one)
		if !ok || !too || !sameRows(twice, one) || !sameRows(back, one) {
			t.Fatal("twice is not once", s, tableText(a), tableText(b), "got", tableText(one), tableText(twice), tableText(back))
		}
	}
}

// everyTable has every table with none of these rows or one at each number of
// a space.
func everyTable(s impl.Space, rows []impl.Row) [][]impl.Row {
	tables := [][]impl.Row{nil}
	for key := range powerOf2(s.Bits) {
		for _, t := range tables {
			for _, row := range rows {
				row.Key = key
				tables = append(tables, append(cloneTable(t), row))
			}
		}
	}
	return tables
}

func TestPromise7EveryTable(t *testing.T) {
	rows := []impl.Row{{Ver: 1}, {Ver: 1, Val: 1}, {Ver: 1, Val: 2}, {Ver: 1, Gone: true}, {Ver: 2}, {Ver: 2, Val: 1}, {Ver: 2, Gone: true}}
	s := impl.Space{Bits: 1, Digit: 1}
	tables := everyTable(s, rows)
	if len(tables) != 64 {
		t.Fatal(len(tables))
	}
	for _, a := range tables {
		for _, b := range tables {
			checkPromise7(t, s, a, b)
		}
	}
	s = impl.Space{Bits: 2, Digit: 1}
	tables = everyTable(s, rows[1:6])
	for i, a := range tables {
		for k := i % 17; k < len(tables); k += 17 {
			checkPromise7(t, s, a, tables[k])
		}
	}
}

func TestPromise7(t *testing.T) {
	for _, s := range spacesUpTo(12) {
		tables := someTables(s)
		for i, a := range tables {
			for k, b := range tables {
				if powerOf2(s.Bits) <= 16 || (i+k)%3 == 0 {
					checkPromise7(t, s, a, b)
				}
			}
		}
	}
}

// Every two rows of one key, each Ver and Val at its edges.
func TestPromise7OfEdges(t *testing.T) {
	var rows []impl.Row
	for _, ver := range []int{1, 2, 500000, 999999, 1000000} {
		rows = append(rows, impl.Row{Key: 4, Ver: ver, Gone: true})
		for _, val := range []int{0, 1, 2, 999999, 1000000} {
			rows = append(rows, impl.Row{Key: 4, Ver: ver, Val: val})
		}
	}
	s := impl.Space{Bits: 3, Digit: 3}
	for _, a := range rows {
		for _, b := range rows {
			checkPromise7(t, s, []impl.Row{a}, []impl.Row{b})
			want, goes := a, b
			if weightOf(b) > weightOf(a) {
				want, goes = b, a
			}
			got, ok := impl.JoinTables(s, []impl.Row{goes}, []impl.Row{want})
			if !ok || !sameRows(got, []impl.Row{want}) {
				t.Fatal(rowText(a), rowText(b), "got", tableText(got), ok)
			}
		}
	}
}

// Tables of which there is no room for all are refused both ways too.
func TestPromise7WithoutRoom(t *testing.T) {
	s := impl.Space{Bits: 5, Digit: 1}
	for many := 1; many <= 8; many++ {
		for from := range 24 {
			a, b := rowsAt(0, many), rowsAt(from, 8)
			checkPromise7(t, s, a, b)
			if _, ok := impl.JoinTables(s, b, a); ok != (from == 0) {
				t.Fatal(tableText(a), tableText(b), ok)
			}
		}
	}
}

// In whatever order three are joined the same comes of it.
func TestPromise7InAnyOrder(t *testing.T) {
	s := impl.Space{Bits: 3, Digit: 1}
	tables := someTables(s)
	join := func(a, b []impl.Row) []impl.Row {
		c, ok := impl.JoinTables(s, a, b)
		if !ok {
			t.Fatal("no room among 8 numbers", tableText(a), tableText(b))
		}
		return c
	}
	for i, a := range tables {
		for k, b := range tables {
			c := tables[(i*5+k*3)%len(tables)]
			want := join(join(a, b), c)
			for _, got := range [][]impl.Row{join(a, join(b, c)), join(join(c, a), b), join(b, join(a, c))} {
				if !sameRows(got, want) {
					t.Fatal(tableText(a), tableText(b), tableText(c), "got", tableText(got), tableText(want))
				}
			}
		}
	}
}

// What is put or dropped is what stays, joined with what was there ahead of it.
func TestChangesAreLater(t *testing.T) {
	for _, s := range fewSpaces() {
		for _, rows := range someTables(s) {
			for _, key := range keysToAsk(s, rows) {
				put, ok := impl.PutRow(s, rows, key, 3)
				if all, one := impl.JoinTables(s, rows, put); ok && (!one || !impl.SameTable(all, put)) {
					t.Fatal("put", s, tableText(rows), key, "got", tableText(all), one)
				}
				dropped, ok := impl.DropRow(s, rows, key)
				if all, one := impl.JoinTables(s, dropped, rows); ok && (!one || !impl.SameTable(all, dropped)) {
					t.Fatal("dropped", s, tableText(rows), key, "got", tableText(all), one)
				}
			}
		}
	}
}

// A map is gone through in another order each time: nothing is to be seen of
// that.
func TestTablesAreInOrderEachTime(t *testing.T) {
	s := impl.Space{Bits: 8, Digit: 2}
	for _, rows := range [][]impl.Row{rowsAt(0, 8), rowsAt(200, 8), eightRows(), tableAt([]int{0, 31, 32, 63, 64, 127, 128, 255}, 5)} {
		half, rest := rows[:4], rows[4:]
		for range 300 {
			for _, pair := range [][2][]impl.Row{{half, rest}, {rest, half}, {rows, rest}} {
				if all, ok := impl.JoinTables(s, pair[0], pair[1]); !ok || !sameRows(all, rows) {
					t.Fatal("joined", tableText(all), ok)
				}
			}
			if in, ok := impl.RowsIn(s, rows, 7, 7); !ok || !sameRows(in, rows) {
				t.Fatal("in", tableText(in), ok)
			}
			key := rows[5].Key
			put, ok := impl.PutRow(s, rows, key, 9)
			want, has := modelPut(s, rows, key, 9)
			if ok != has || !sameRows(put, want) {
				t.Fatal("put", tableText(put), ok)
			}
		}
	}
}
