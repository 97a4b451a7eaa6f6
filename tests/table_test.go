package tests

import (
	"testing"

	"loop.example/g00749/impl"
)

func TestTableConstants(t *testing.T) {
	if impl.MaxRows != 8 {
		t.Error(impl.MaxRows)
	}
}

// A space of 16 numbers, and a table with a row at both of its ends, one that
// is Gone, one that may be put once more, and one that may not.
func fiveRows() (impl.Space, []impl.Row) {
	return impl.Space{Bits: 4, Digit: 2}, []impl.Row{
		{Key: 0, Ver: 1, Val: 1000000},
		{Key: 3, Ver: 4, Gone: true},
		{Key: 7, Ver: 999999, Val: 5},
		{Key: 9, Ver: 1000000, Val: 6},
		{Key: 15, Ver: 2},
	}
}

// eightRows has as many rows as there may be, at the odd numbers of 16.
func eightRows() []impl.Row {
	t := make([]impl.Row, 8)
	for i := range t {
		t[i] = impl.Row{Key: 2*i + 1, Ver: i + 1, Val: 10 * i}
	}
	t[3] = impl.Row{Key: 7, Ver: 4, Gone: true}
	return t
}

func TestGoodTable(t *testing.T) {
	for _, c := range []struct {
		name   string
		want   bool
		change func(rows []impl.Row) []impl.Row
	}{
		{"as it is", true, func(r []impl.Row) []impl.Row { return r }},
		{"none", true, func(r []impl.Row) []impl.Row { return nil }},
		{"an empty one", true, func(r []impl.Row) []impl.Row { return r[:0] }},
		{"one row", true, func(r []impl.Row) []impl.Row { return r[4:] }},
		{"8 rows", true, func(r []impl.Row) []impl.Row { return eightRows() }},
		{"9 rows", false, func(r []impl.Row) []impl.Row { return append(r[:1], eightRows()...) }},
		{"a key of the greatest", true, func(r []impl.Row) []impl.Row { r[4].Key = 15; return r }},
		{"a key just outside", false, func(r []impl.Row) []impl.Row { r[4].Key = 16; return r }},
		{"a key below 0", false, func(r []impl.Row) []impl.Row { r[0].Key = -1; return r }},
		{"two keys alike", false, func(r []impl.Row) []impl.Row { r[1].Key = 7; return r }},
		{"two rows alike", false, func(r []impl.Row) []impl.Row { r[2] = r[1]; return r }},
		{"keys that fall", false, func(r []impl.Row) []impl.Row { r[1].Key = 8; return r }},
		{"the last key falls", false, func(r []impl.Row) []impl.Row { r[4].Key = 8; return r }},
		{"a Ver of 1", true, func(r []impl.Row) []impl.Row { r[4].Ver = 1; return r }},
		{"a Ver of 0", false, func(r []impl.Row) []impl.Row { r[4].Ver = 0; return r }},
		{"a Ver below 0", false, func(r []impl.Row) []impl.Row { r[4].Ver = -1; return r }},
		{"a Ver of 1000000", true, func(r []impl.Row) []impl.Row { r[4].Ver = 1000000; return r }},
		{"a Ver of 1000001", false, func(r []impl.Row) []impl.Row { r[4].Ver = 1000001; return r }},
		{"a Val of 1000000", true, func(r []impl.Row) []impl.Row { r[4].Val = 1000000; return r }},
		{"a Val of 1000001", false, func(r []impl.Row) []impl.Row { r[4].Val = 1000001; return r }},
		{"a Val below 0", false, func(r []impl.Row) []impl.Row { r[4].Val = -1; return r }},
		{"Gone with no Val", true, func(r []impl.Row) []impl.Row { r[4].Gone = true; return r }},
		{"Gone with a Val", false, func(r []impl.Row) []impl.Row { r[1].Val = 1; return r }},
		{"Gone with a Val below 0", false, func(r []impl.Row) []impl.Row { r[1].Val = -1; return r }},
		{"Gone with a Ver of 0", false, func(r []impl.Row) []impl.Row { r[1].Ver = 0; return r }},
		{"Gone with a Ver of 1000000", true, func(r []impl.Row) []impl.Row { r[1].Ver = 1000000; return r }},
	} {
		s, rows := fiveRows()
		if got := impl.GoodTable(s, c.change(rows)); got != c.want {
			t.Error(c.name, "got", got)
		}
	}
}

func TestGoodTableByModel(t *testing.T) {
	for _, s := range spacesUpTo(12) {
		for _, rows := range someTables(s) {
			if !impl.GoodTable(s, rows) || !modelGoodTable(s, rows) {
				t.Fatal("good one refused", s, tableText(rows))
			}
		}
		for _, rows := range wrongTables(s) {
			if impl.GoodTable(s, rows) || modelGoodTable(s, rows) {
				t.Fatal("wrong one taken", s, len(rows), tableText(rows[:min(len(rows), 9)]))
			}
		}
	}
}

// Every table of at most 2 rows, with what is good and what is just not.
func TestGoodTableOfShortLists(t *testing.T) {
	var rows []impl.Row
	for key := -1; key <= 4; key++ {
		for _, ver := range []int{0, 1, 1000000, 1000001} {
			for _, val := range []int{-1, 0, 1, 1000000, 1000001} {
				rows = append(rows, impl.Row{Key: key, Ver: ver, Val: val}, impl.Row{Key: key, Ver: ver, Val: val, Gone: true})
			}
		}
	}
	for _, s := range []impl.Space{{Bits: 1, Digit: 1}, {Bits: 2, Digit: 1}, {Bits: 2, Digit: 2}, {Bits: 0, Digit: 1}} {
		for _, a := range rows {
			for _, b := range rows {
				for _, table := range [][]impl.Row{{a}, {a, b}} {
					if impl.GoodTable(s, table) != modelGoodTable(s, table) {
						t.Fatal(s, tableText(table), impl.GoodTable(s, table))
					}
				}
			}
		}
	}
}

func TestRowForAndGetRow(t *testing.T) {
	s, rows := fiveRows()
	for _, c := range []struct {
		key      int
		row      impl.Row
		has, got bool
	}{
		{0, impl.Row{Key: 0, Ver: 1, Val: 1000000}, true, true},
		{1, impl.Row{}, false, false},
		{3, impl.Row{Key: 3, Ver: 4, Gone: true}, true, false},
		{7, impl.Row{Key: 7, Ver: 999999, Val: 5}, true, true},
		{8, impl.Row{}, false, false},
		{9, impl.Row{Key: 9, Ver: 1000000, Val: 6}, true, true},
		{15, impl.Row{Key: 15, Ver: 2}, true, true},
		{16, impl.Row{}, false, false},
		{-1, impl.Row{}, false, false},
	} {
		if row, ok := impl.RowFor(s, rows, c.key); row != c.row || ok != c.has {
			t.Error("RowFor", c.key, "got", row, ok)
		}
		if val, ok := impl.GetRow(s, rows, c.key); val != c.row.Val || ok != c.got {
			t.Error("GetRow", c.key, "got", val, ok)
		}
	}
}

func TestRowForByModel(t *testing.T) {
	for _, s := range spacesUpTo(12) {
		for _, rows := range someTables(s) {
			for _, key := range keysToAsk(s, rows) {
				want, has := modelRowFor(rows, key)
				if row, ok := impl.RowFor(s, rows, key); row != want || ok != has {
					t.Fatal("RowFor", s, tableText(rows), key, "got", row, ok)
				}
				if val, ok := impl.GetRow(s, rows, key); val != want.Val || ok != (has && !want.Gone) {
					t.Fatal("GetRow", s, tableText(rows), key, "got", val, ok)
				}
			}
		}
	}
}

// A change to a table, by hand: what the rows that are not asked for are stays.
type tableChange struct {
	name string
	key  int
	val  int
	want []impl.Row
}

func checkChange(t *testing.T, c tableChange, got []impl.Row, ok bool) {
	t.Helper()
	if ok != (c.want != nil) || !sameRows(got, c.want) {
		t.Error(c.name, "got", tableText(got), ok)
	}
}

func TestPutRow(t *testing.T) {
	s, r := fiveRows()
	for _, c := range []tableChange{
		{"one that has a row", 0, 8, []impl.Row{{Key: 0, Ver: 2, Val: 8}, r[1], r[2], r[3], r[4]}},
		{"the same val", 0, 1000000, []impl.Row{{Key: 0, Ver: 2, Val: 1000000}, r[1], r[2], r[3], r[4]}},
		{"a val of 0", 0, 0, []impl.Row{{Key: 0, Ver: 2}, r[1], r[2], r[3], r[4]}},
		{"one that is Gone", 3, 8, []impl.Row{r[0], {Key: 3, Ver: 5, Val: 8}, r[2], r[3], r[4]}},
		{"one that is Gone, with 0", 3, 0, []impl.Row{r[0], {Key: 3, Ver: 5}, r[2], r[3], r[4]}},
		{"up to the last Ver", 7, 8, []impl.Row{r[0], r[1], {Key: 7, Ver: 1000000, Val: 8}, r[3], r[4]}},
		{"beyond the last Ver", 9, 8, nil},
		{"the greatest key", 15, 1000000, []impl.Row{r[0], r[1], r[2], r[3], {Key: 15, Ver: 3, Val: 1000000}}},
		{"a new one ahead of some", 1, 8, []impl.Row{r[0], {Key: 1, Ver: 1, Val: 8}, r[1], r[2], r[3], r[4]}},
		{"a new one with 0", 8, 0, []impl.Row{r[0], r[1], r[2], {Key: 8, Ver: 1}, r[3], r[4]}},
		{"a key just outside", 16, 8, nil},
		{"a key below 0", -1, 8, nil},
		{"a val just outside", 0, 1000001, nil},
		{"a val below 0", 0, -1, nil},
		{"a new one with a val just outside", 1, 1000001, nil},
	} {
		got, ok := impl.PutRow(s, r, c.key, c.val)
		checkChange(t, c, got, ok)
	}
	for _, none := range [][]impl.Row{nil, {}, r[:0]} {
		for _, key := range []int{0, 15} {
			got, ok := impl.PutRow(s, none, key, 8)
			checkChange(t, tableChange{"into none", key, 8, []impl.Row{{Key: key, Ver: 1, Val: 8}}}, got, ok)
		}
	}
}

// A full table takes what has a row, Gone or not, and no other key.
func TestPutRowOfFullTable(t *testing.T) {
	s, _ := fiveRows()
	for key := 0; key < 16; key++ {
		rows := eightRows()
		got, ok := impl.PutRow(s, rows, key, 77)
		if key%2 == 0 {
			if ok || len(got) != 0 {
				t.Error("put without room", key, tableText(got), ok)
			}
			continue
		}
		rows[key/2] = impl.Row{Key: key, Ver: key/2 + 2, Val: 77}
		if !ok || !sameRows(got, rows) {
			t.Error("put where there is a row", key, tableText(got), ok)
		}
	}
	for key := 0; key < 16; key += 2 {
		seven := eightRows()[:7]
		got, ok := impl.PutRow(s, seven, key, 77)
		if want := modelSetRow(s, seven, impl.Row{Key: key, Ver: 1, Val: 77}); !ok || !sameRows(got, want) {
			t.Error("put as the eighth", key, tableText(got), ok)
		}
	}
}

func TestPutTillFull(t *testing.T) {
	for _, s := range spacesUpTo(12) {
		size := powerOf2(s.Bits)
		var rows []impl.Row
		for i := range size {
			key := (i*5 + 3) % size
			next, ok := impl.PutRow(s, rows, key, i)
			if i >= 8 {
				if ok || len(next) != 0 {
					t.Fatal("put without room", s, key, tableText(next))
				}
				continue
			}
			if !ok || len(next) != i+1 || !impl.GoodTable(s, next) {
				t.Fatal(s, key, tableText(next), ok)
			}
			rows = next
		}
		for i, row := range rows {
			if val, ok := impl.GetRow(s, rows, row.Key); !ok || val != row.Val || (val*5+3)%size != row.Key {
				t.Fatal("not what was put", s, i, tableText(rows))
			}
		}
	}
}

func TestDropRow(t *testing.T) {
	s, r := fiveRows()
	for _, c := range []tableChange{
		{"one that has a row", 0, 0, []impl.Row{{Key: 0, Ver: 2, Gone: true}, r[1], r[2], r[3], r[4]}},
		{"one with a Val of 0", 15, 0, []impl.Row{r[0], r[1], r[2], r[3], {Key: 15, Ver: 3, Gone: true}}},
		{"up to the last Ver", 7, 0, []impl.Row{r[0], r[1], {Key: 7, Ver: 1000000, Gone: true}, r[3], r[4]}},
		{"beyond the last Ver", 9, 0, nil},
		{"one that is Gone", 3, 0, nil},
		{"one that has none", 1, 0, nil},
		{"a key just outside", 16, 0, nil},
		{"a key below 0", -1, 0, nil},
	} {
		got, ok := impl.DropRow(s, r, c.key)
		checkChange(t, c, got, ok)
	}
	for _, none := range [][]impl.Row{nil, {}, r[:0]} {
		for _, key := range []int{0, 3, 15, 16} {
			got, ok := impl.DropRow(s, none, key)
			checkChange(t, tableChange{"of none", key, 0, nil}, got, ok)
		}
	}
	for key := 1; key < 16; key += 2 {
		full := eightRows()
		got, ok := impl.DropRow(s, full, key)
		want := modelSetRow(s, full, impl.Row{Key: key, Ver: key/2 + 2, Gone: true})
		if key == 7 {
			want = nil
		}
		checkChange(t, tableChange{"of a full one", key, 0, want}, got, ok)
	}
}

func checkPutAndDrop(t *testing.T, s impl.Space, rows []impl.Row, key int) {
	t.Helper()
	for _, val := range []int{0, 1, 5, 999999, 1000000} {
		want, has := modelPut(s, rows, key, val)
		got, ok := impl.PutRow(s, rows, key, val)
		if ok != has || !sameRows(got, want) {
			t.Fatal("PutRow", s, tableText(rows), key, val, "got", tableText(got), ok)
		}
		if read, one := impl.GetRow(s, got, key); ok && (read != val || !one || !impl.GoodTable(s, got)) {
			t.Fatal("not what was put", s, tableText(rows), key, val, "got", tableText(got))
		}
	}
	want, has := modelDrop(s, rows, key)
	got, ok := impl.DropRow(s, rows, key)
	if ok != has || !sameRows(got, want) {
		t.Fatal("DropRow", s, tableText(rows), key, "got", tableText(got), ok)
	}
	if _, one := impl.GetRow(s, got, key); ok && (one || !impl.GoodTable(s, got)) {
		t.Fatal("not dropped", s, tableText(rows), key, "got", tableText(got))
	}
}

func TestPutAndDropByModel(t *testing.T) {
	for _, s := range spacesUpTo(6) {
		for _, rows := range someTables(s) {
			for _, key := range keysToAsk(s, rows) {
				checkPutAndDrop(t, s, rows, key)
			}
		}
	}
	for _, s := range []impl.Space{{Bits: 9, Digit: 3}, {Bits: 12, Digit: 1}} {
		for _, rows := range someTables(s)[20:] {
			for _, key := range []int{0, powerOf2(s.Bits) - 1, 5} {
				checkPutAndDrop(t, s, rows, key)
			}
		}
	}
}

// Put and dropped by turns a row comes up to the last Ver, and stays there.
func TestPutAndDropUpToTheLastVer(t *testing.T) {
	s, _ := fiveRows()
	for _, gone := range []bool{false, true} {
		rows := []impl.Row{{Key: 6, Ver: 999990, Gone: gone}}
		for ver := 999991; ver <= 1000000; ver++ {
			next, ok := impl.PutRow(s, rows, 6, ver%7)
			if !rows[0].Gone {
				next, ok = impl.DropRow(s, rows, 6)
			}
			if !ok || len(next) != 1 || next[0].Ver != ver || next[0].Gone == rows[0].Gone {
				t.Fatal(ver, tableText(rows), tableText(next), ok)
			}
			rows = next
		}
		if next, ok := impl.PutRow(s, rows, 6, 3); ok || len(next) != 0 {
			t.Error("put beyond the last Ver", tableText(rows), tableText(next))
		}
		if next, ok := impl.DropRow(s, rows, 6); ok || len(next) != 0 {
			t.Error("dropped beyond the last Ver", tableText(rows), tableText(next))
		}
	}
}
