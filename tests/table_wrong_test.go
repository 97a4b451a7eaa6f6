package tests

import (
	"math"
	"testing"

	"loop.example/g00749/impl"
)

// Promise 18 for chapter 7: the zero answer for all that is wrong.

func shortText(rows []impl.Row) string {
	return tableText(rows[:min(len(rows), 9)])
}

func wantZeroTable(t *testing.T, name string, s impl.Space, rows, got []impl.Row, ok bool) {
	t.Helper()
	if len(got) != 0 || ok {
		t.Fatal(name, s, shortText(rows), "got", tableText(got), ok)
	}
}

func wantZeroChange(t *testing.T, s impl.Space, rows []impl.Row, key, val int) {
	t.Helper()
	got, ok := impl.PutRow(s, rows, key, val)
	wantZeroTable(t, "PutRow", s, rows, got, ok)
}

func wantZeroOfKey(t *testing.T, s impl.Space, rows []impl.Row, key int) {
	t.Helper()
	if row, ok := impl.RowFor(s, rows, key); row != (impl.Row{}) || ok {
		t.Fatal("RowFor", s, shortText(rows), key, "got", row, ok)
	}
	if val, ok := impl.GetRow(s, rows, key); val != 0 || ok {
		t.Fatal("GetRow", s, shortText(rows), key, "got", val, ok)
	}
	wantZeroChange(t, s, rows, key, 0)
	wantZeroChange(t, s, rows, key, 1000000)
	got, ok := impl.DropRow(s, rows, key)
	wantZeroTable(t, "DropRow", s, rows, got, ok)
}

func wantZeroArc(t *testing.T, s impl.Space, rows []impl.Row, from, to int) {
	t.Helper()
	got, ok := impl.RowsIn(s, rows, from, to)
	wantZeroTable(t, "RowsIn", s, rows, got, ok)
}

func wantZeroJoin(t *testing.T, s impl.Space, a, b []impl.Row) {
	t.Helper()
	got, ok := impl.JoinTables(s, a, b)
	wantZeroTable(t, "JoinTables", s, a, got, ok)
	got, ok = impl.JoinTables(s, b, a)
	wantZeroTable(t, "JoinTables the other way", s, a, got, ok)
}

// Zero of all functions of tables, whatever else they are asked with.
func wantZeroOfTable(t *testing.T, s impl.Space, rows []impl.Row) {
	t.Helper()
	if impl.GoodTable(s, rows) {
		t.Fatal("wrong one taken", s, shortText(rows))
	}
	top := 1
	if modelGoodSpace(s) {
		top = powerOf2(s.Bits) - 1
	}
	for _, key := range []int{0, top, -1, top + 1} {
		wantZeroOfKey(t, s, rows, key)
	}
	for _, row := range rows[:min(len(rows), 9)] {
		wantZeroOfKey(t, s, rows, row.Key)
	}
	for _, ends := range [][2]int{{0, 0}, {0, top}, {top, 0}, {top, top}, {-1, top + 1}} {
		wantZeroArc(t, s, rows, ends[0], ends[1])
	}
	for _, other := range [][]impl.Row{nil, {{Key: 0, Ver: 1, Val: 1}}, {{Key: 0, Ver: 1000000, Gone: true}}, rows} {
		wantZeroJoin(t, s, rows, other)
	}
}

func TestWrongTables(t *testing.T) {
	for _, s := range fewSpaces() {
		wrong := wrongTables(s)
		if len(wrong) < 300 {
			t.Fatal("so few", len(wrong))
		}
		for _, rows := range wrong {
			wantZeroOfTable(t, s, rows)
		}
	}
}

func TestTablesOfWrongSpaces(t *testing.T) {
	for _, s := range wrongSpaces() {
		for _, rows := range [][]impl.Row{nil, {}, {{Ver: 1}}, {{Key: 1, Ver: 1, Val: 1}}, {{Ver: 1}, {Key: 1, Ver: 5, Gone: true}}, {{}}, rowsAt(0, 9)} {
			wantZeroOfTable(t, s, rows)
		}
	}
}

// A table of one space is none of one with fewer numbers.
func TestTablesOfAnotherSpace(t *testing.T) {
	for _, s := range spacesUpTo(12) {
		for _, rows := range [][]impl.Row{{{Key: powerOf2(s.Bits) - 1, Ver: 1}}, tableAt([]int{0, powerOf2(s.Bits) - 1}, 4)} {
			if !impl.GoodTable(s, rows) {
				t.Fatal("good one refused", s, tableText(rows))
			}
			if s.Bits > 1 {
				wantZeroOfTable(t, impl.Space{Bits: s.Bits - 1, Digit: 1}, rows)
			}
		}
	}
}

func TestTablesOfWrongKeys(t *testing.T) {
	for _, s := range spacesUpTo(12) {
		for _, rows := range someTables(s) {
			for _, key := range wrongNumbers(s) {
				wantZeroOfKey(t, s, rows, key)
				wantZeroArc(t, s, rows, key, key)
				for _, good := range endsOf(s) {
					wantZeroArc(t, s, rows, key, good)
					wantZeroArc(t, s, rows, good, key)
				}
			}
		}
	}
}

func TestPutRowOfWrongVals(t *testing.T) {
	for _, s := range spacesUpTo(12) {
		for _, rows := range someTables(s) {
			for _, val := range wrongVals() {
				for _, key := range keysToAsk(s, rows) {
					wantZeroChange(t, s, rows, key, val)
				}
				wantZeroChange(t, s, rows, -1, val)
				wantZeroChange(t, s, rows, powerOf2(s.Bits), val)
			}
		}
	}
}

// A wrong table joined with a good one that has all of its keys, each with a
// row that would stay.
func TestJoinTablesOfAWrongOne(t *testing.T) {
	s := impl.Space{Bits: 3, Digit: 1}
	full := make([]impl.Row, 8)
	for i := range full {
		full[i] = impl.Row{Key: i, Ver: 1000000, Gone: true}
	}
	wrong := wrongTables(s)
	for _, rows := range wrong {
		wantZeroJoin(t, s, rows, full)
		wantZeroJoin(t, s, rows, full[:1])
		wantZeroJoin(t, s, rows, wrong[5])
	}
}

func TestSameTableOfWrongTables(t *testing.T) {
	odd := []impl.Row{{Key: math.MinInt, Ver: math.MaxInt, Val: -1, Gone: true}, {}, {}, {Key: -1}}
	if !impl.SameTable(odd, cloneTable(odd)) || impl.SameTable(odd, odd[:3]) || impl.SameTable(odd[1:2], odd[3:]) {
		t.Error("odd rows")
	}
	long := make([]impl.Row, 100000)
	other := cloneTable(long)
	if !impl.SameTable(long, other) {
		t.Error("long ones that are the same")
	}
	other[99999].Gone = true
	if impl.SameTable(long, other) || impl.SameTable(other, long) || impl.SameTable(long, long[1:]) {
		t.Error("long ones that are not")
	}
}
