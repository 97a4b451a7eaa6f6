package tests

import (
	"testing"

	"loop.example/g00749/impl"
)

// What of two rows with one key stays, by hand and both ways.
func TestJoinTablesOfOneKey(t *testing.T) {
	s, _ := fiveRows()
	for _, c := range []struct {
		name        string
		stays, goes impl.Row
	}{
		{"a greater Ver", impl.Row{Ver: 3, Val: 1}, impl.Row{Ver: 2, Val: 9}},
		{"a greater Ver by much", impl.Row{Ver: 1000000}, impl.Row{Ver: 1, Val: 1000000}},
		{"the last two Vers", impl.Row{Ver: 1000000, Val: 1}, impl.Row{Ver: 999999, Val: 2}},
		{"a greater Ver, Gone", impl.Row{Ver: 3, Gone: true}, impl.Row{Ver: 2, Val: 9}},
		{"a greater Ver than one that is Gone", impl.Row{Ver: 3, Val: 1}, impl.Row{Ver: 2, Gone: true}},
		{"a greater Ver of two that are Gone", impl.Row{Ver: 3, Gone: true}, impl.Row{Ver: 2, Gone: true}},
		{"Gone, of the same Ver", impl.Row{Ver: 2, Gone: true}, impl.Row{Ver: 2, Val: 9}},
		{"Gone, of the same Ver and Val", impl.Row{Ver: 2, Gone: true}, impl.Row{Ver: 2}},
		{"Gone, against the greatest Val", impl.Row{Ver: 1, Gone: true}, impl.Row{Ver: 1, Val: 1000000}},
		{"Gone, of the last Ver", impl.Row{Ver: 1000000, Gone: true}, impl.Row{Ver: 1000000, Val: 1000000}},
		{"both Gone", impl.Row{Ver: 2, Gone: true}, impl.Row{Ver: 2, Gone: true}},
		{"a greater Val", impl.Row{Ver: 2, Val: 9}, impl.Row{Ver: 2, Val: 8}},
		{"a Val above 0", impl.Row{Ver: 2, Val: 1}, impl.Row{Ver: 2}},
		{"the greatest Val", impl.Row{Ver: 1, Val: 1000000}, impl.Row{Ver: 1, Val: 999999}},
		{"the same Val", impl.Row{Ver: 2, Val: 9}, impl.Row{Ver: 2, Val: 9}},
		{"both with a Val of 0", impl.Row{Ver: 2}, impl.Row{Ver: 2}},
	} {
		for _, key := range []int{0, 5, 15} {
			c.stays.Key, c.goes.Key = key, key
			a, b := []impl.Row{c.stays}, []impl.Row{c.goes}
			if got, ok := impl.JoinTables(s, a, b); !ok || !sameRows(got, a) {
				t.Error(c.name, key, "got", tableText(got), ok)
			}
			if got, ok := impl.JoinTables(s, b, a); !ok || !sameRows(got, a) {
				t.Error(c.name, key, "the other way got", tableText(got), ok)
			}
		}
	}
}

func TestJoinTables(t *testing.T) {
	s, r := fiveRows()
	one := []impl.Row{{Key: 6, Ver: 1, Val: 1}}
	some := []impl.Row{{Key: 1, Ver: 1, Val: 1}, {Key: 3, Ver: 3, Val: 1}, {Key: 7, Ver: 999999, Val: 4}, {Key: 9, Ver: 1000000, Gone: true}, {Key: 10, Ver: 2, Gone: true}}
	every := []impl.Row{{Key: 0, Ver: 1, Gone: true}, {Key: 3, Ver: 5, Val: 2}, {Key: 7, Ver: 999999, Val: 6}, {Key: 9, Ver: 999999, Val: 9}, {Key: 15, Ver: 2, Val: 1}}
	for _, c := range []struct {
		name string
		a, b []impl.Row
		want []impl.Row
	}{
		{"none with none", nil, []impl.Row{}, nil},
		{"one with none", r, nil, r},
		{"one with itself", r, r, r},
		{"a full one with none", eightRows(), nil, eightRows()},
		{"a full one with itself", eightRows(), eightRows(), eightRows()},
		{"no key in common", r, one, []impl.Row{r[0], r[1], one[0], r[2], r[3], r[4]}},
		{"some in common", r, some, []impl.Row{r[0], some[0], r[1], r[2], some[3], some[4], r[4]}},
		{"all in common", r, every, []impl.Row{every[0], every[1], every[2], r[3], every[4]}},
		{"one within the other", r[1:4], every, []impl.Row{every[0], every[1], every[2], r[3], every[4]}},
	} {
		if got, ok := impl.JoinTables(s, c.a, c.b); !ok || !sameRows(got, c.want) {
			t.Error(c.name, "got", tableText(got), ok)
		}
		if got, ok := impl.JoinTables(s, c.b, c.a); !ok || !sameRows(got, c.want) {
			t.Error(c.name, "the other way got", tableText(got), ok)
		}
	}
}

// rowsAt has rows of Ver 1 at each number from one on.
func rowsAt(from, many int) []impl.Row {
	t := make([]impl.Row, many)
	for i := range t {
		t[i] = impl.Row{Key: from + i, Ver: 1, Val: from + i}
	}
	return t
}

// However keys are shared out there is room for MaxRows of them, not for one
// more, though each table alone has no more.
func TestJoinTablesUpToMaxRows(t *testing.T) {
	s, _ := fiveRows()
	for many := 0; many <= 8; many++ {
		for other := 0; other <= 8; other++ {
			for from := 0; from+other <= 16 && from <= 9; from++ {
				a, b := rowsAt(0, many), rowsAt(from, other)
				want, has := modelJoinTables(s, a, b)
				got, ok := impl.JoinTables(s, a, b)
				if ok != has || !sameRows(got, want) {
					t.Fatal(tableText(a), tableText(b), "got", tableText(got), ok)
				}
			}
		}
	}
	for _, c := range []struct {
		a, b []impl.Row
		want bool
	}{
		{rowsAt(0, 4), rowsAt(4, 4), true},
		{rowsAt(0, 4), rowsAt(4, 5), false},
		{rowsAt(0, 8), rowsAt(7, 1), true},
		{rowsAt(0, 8), rowsAt(8, 1), false},
		{rowsAt(0, 8), rowsAt(0, 8), true},
		{rowsAt(0, 8), rowsAt(1, 8), false},
		{rowsAt(0, 8), rowsAt(8, 8), false},
		{nil, rowsAt(8, 8), true},
	} {
		if got, ok := impl.JoinTables(s, c.a, c.b); ok != c.want || ok && len(got) != 8 || !ok && len(got) != 0 {
			t.Error(tableText(c.a), tableText(c.b), "got", tableText(got), ok)
		}
	}
	// Rows that are Gone need room as others do.
	gone := []impl.Row{{Key: 12, Ver: 1, Gone: true}}
	if got, ok := impl.JoinTables(s, gone, rowsAt(0, 8)); ok || len(got) != 0 {
		t.Error("a ninth that is Gone", tableText(got), ok)
	}
}

func TestJoinTablesByModel(t *testing.T) {
	for _, s := range []impl.Space{{Bits: 1, Digit: 1}, {Bits: 3, Digit: 1}, {Bits: 4, Digit: 4}, {Bits: 6, Digit: 2}} {
		tables := someTables(s)
		for _, a := range tables {
			for _, b := range tables {
				want, has := modelJoinTables(s, a, b)
				if got, ok := impl.JoinTables(s, a, b); ok != has || !sameRows(got, want) {
					t.Fatal(s, tableText(a), tableText(b), "got", tableText(got), ok)
				}
			}
		}
	}
	s := impl.Space{Bits: 12, Digit: 3}
	tables := someTables(s)
	for i, a := range tables {
		b := tables[(i*7+3)%len(tables)]
		want, has := modelJoinTables(s, a, b)
		if got, ok := impl.JoinTables(s, a, b); ok != has || !sameRows(got, want) {
			t.Fatal(s, tableText(a), tableText(b), "got", tableText(got), ok)
		}
	}
}

func TestRowsIn(t *testing.T) {
	s, r := fiveRows()
	for _, c := range []struct {
		name     string
		from, to int
		want     []impl.Row
	}{
		{"from is not in it", 0, 7, r[1:3]},
		{"to is in it", 3, 9, r[2:4]},
		{"one row that is Gone", 2, 3, r[1:2]},
		{"up to the greatest", 9, 15, r[4:]},
		{"all but the first", 0, 15, r[1:]},
		{"no key in it", 10, 14, nil},
		{"no key in it but from", 9, 14, nil},
		{"from one to the next number", 8, 9, r[3:4]},
		{"it wraps", 8, 3, []impl.Row{r[0], r[1], r[3], r[4]}},
		{"it wraps with both ends a key", 9, 0, []impl.Row{r[0], r[4]}},
		{"it wraps to the first alone", 15, 0, r[:1]},
		{"it wraps to behind the first", 15, 2, r[:1]},
		{"it wraps, all but one", 9, 7, []impl.Row{r[0], r[1], r[2], r[4]}},
		{"both ends the same", 0, 0, r},
		{"both ends the same, no key", 6, 6, r},
		{"both ends the greatest", 15, 15, r},
	} {
		if got, ok := impl.RowsIn(s, r, c.from, c.to); !ok || !sameRows(got, c.want) {
			t.Error(c.name, "got", tableText(got), ok)
		}
	}
	for _, none := range [][]impl.Row{nil, {}} {
		if got, ok := impl.RowsIn(s, none, 3, 3); !ok || len(got) != 0 {
			t.Error("of none got", tableText(got), ok)
		}
	}
}

func checkRowsIn(t *testing.T, s impl.Space, rows []impl.Row, from, to int) {
	t.Helper()
	got, ok := impl.RowsIn(s, rows, from, to)
	if !ok || !sameRows(got, modelRowsIn(s, rows, from, to)) || !impl.GoodTable(s, got) {
		t.Fatal(s, tableText(rows), from, to, "got", tableText(got), ok)
	}
}

func TestRowsInByModel(t *testing.T) {
	for _, s := range spacesUpTo(4) {
		for _, rows := range someTables(s) {
			for from := range powerOf2(s.Bits) {
				for to := range powerOf2(s.Bits) {
					checkRowsIn(t, s, rows, from, to)
				}
			}
		}
	}
	for _, s := range []impl.Space{{Bits: 7, Digit: 7}, {Bits: 8, Digit: 2}} {
		for _, rows := range someTables(s) {
			for _, from := range keysToAsk(s, rows) {
				checkRowsIn(t, s, rows, from, from)
				checkRowsIn(t, s, rows, from, oneUp(s, from))
				checkRowsIn(t, s, rows, from, oneDown(s, from))
				checkRowsIn(t, s, rows, 0, from)
				checkRowsIn(t, s, rows, from, powerOf2(s.Bits)/2)
			}
		}
	}
}

// Both arcs of two numbers that are not the same have all rows together, none
// of them twice.
func TestRowsInBothArcs(t *testing.T) {
	s, rows := fiveRows()
	for _, table := range [][]impl.Row{rows, eightRows(), rowsAt(5, 8), nil} {
		for from := range 16 {
			for to := range 16 {
				in, _ := impl.RowsIn(s, table, from, to)
				out, _ := impl.RowsIn(s, table, to, from)
				if from != to && len(in)+len(out) != len(table) {
					t.Fatal(from, to, tableText(in), tableText(out))
				}
				if all, ok := impl.JoinTables(s, in, out); !ok || !sameRows(all, table) {
					t.Fatal(from, to, tableText(in), tableText(out), tableText(all))
				}
			}
		}
	}
}

func TestSameTable(t *testing.T) {
	_, rows := fiveRows()
	if !impl.SameTable(rows, cloneTable(rows)) || !impl.SameTable(rows, rows) {
		t.Error("not the same as itself")
	}
	changes := []func(row *impl.Row){
		func(row *impl.Row) { row.Key++ }, func(row *impl.Row) { row.Ver++ }, func(row *impl.Row) { row.Val++ },
		func(row *impl.Row) { row.Gone = !row.Gone }, func(row *impl.Row) { row.Key = -row.Key - 1 },
		func(row *impl.Row) { row.Ver += 1 << 32 }, func(row *impl.Row) { row.Val -= 1 << 40 },
		func(row *impl.Row) { row.Val, row.Ver = row.Ver, row.Val },
	}
	for place := range rows {
		for i, change := range changes {
			b := cloneTable(rows)
			change(&b[place])
			if impl.SameTable(rows, b) || impl.SameTable(b, rows) {
				t.Error("change", i, "at", place, "is not seen", tableText(b))
			}
			if !impl.SameTable(b, cloneTable(b)) {
				t.Error("not the same", tableText(b))
			}
		}
		for _, b := range [][]impl.Row{rows[:place], rows[place+1:], append(cloneTable(rows), rows[place]), append(cloneTable(rows), impl.Row{})} {
			if impl.SameTable(rows, b) || impl.SameTable(b, rows) {
				t.Error("a length is not seen", place, tableText(b))
			}
		}
	}
}

func TestSameTableOfNone(t *testing.T) {
	_, rows := fiveRows()
	nones := [][]impl.Row{nil, {}, rows[:0], rows[5:], make([]impl.Row, 0, 9)}
	for _, a := range nones {
		for _, b := range nones {
			if !impl.SameTable(a, b) {
				t.Error("none and nil are the same")
			}
		}
		for _, b := range [][]impl.Row{{{}}, rows, rows[:1], make([]impl.Row, 9)} {
			if impl.SameTable(a, b) || impl.SameTable(b, a) {
				t.Error("none is", tableText(b))
			}
		}
	}
}

// Tables of any kind, good or not, are asked for alone.
func TestSameTableOfAnyTables(t *testing.T) {
	s := impl.Space{Bits: 3, Digit: 1}
	tables := append(wrongTables(s), someTables(s)...)
	for i, a := range tables {
		if !impl.SameTable(a, cloneTable(a)) {
			t.Fatal("not the same", i, len(a))
		}
		for k := i % 13; k < len(tables); k += 13 {
			if impl.SameTable(a, tables[k]) != sameRows(a, tables[k]) {
				t.Fatal(tableText(a[:min(len(a), 9)]), tableText(tables[k][:min(len(tables[k]), 9)]))
			}
		}
	}
}
