package tests

import (
	"sync"
	"testing"

	"loop.example/g00749/impl"
)

// Promise 18 for chapter 7: nothing written into tables that are handed in,
// nor behind their length, and answers that are new memory.

// tableInMemory has a table in the midst of more memory, with rows behind its
// length that would go on rising, as far as there are numbers.
func tableInMemory(rows []impl.Row, behind int) (whole, table []impl.Row) {
	whole = make([]impl.Row, len(rows)+8)
	for i := range whole {
		whole[i] = impl.Row{Key: behind + i, Ver: 7, Val: 7}
	}
	copy(whole[4:], rows)
	return whole, whole[4 : 4+len(rows)]
}

// spoilRows writes over an answer, behind its length too.
func spoilRows(rows []impl.Row) {
	rows = rows[:cap(rows)]
	for i := range rows {
		rows[i] = impl.Row{Key: -77, Ver: -77, Val: -77, Gone: true}
	}
}

// spoiledTable tells an answer, and writes over it.
func spoiledTable(rows []impl.Row, ok bool) string {
	text := tableText(rows) + answerText(ok)
	spoilRows(rows)
	return text
}

// allTableAnswers asks all functions of two tables, tells what they answer,
// and writes over that.
func allTableAnswers(s impl.Space, a, b []impl.Row, key, val int) string {
	text := answerText(impl.GoodTable(s, a)) + answerText(impl.SameTable(a, b))
	row, ok := impl.RowFor(s, a, key)
	text += rowText(row) + answerText(ok)
	got, ok := impl.GetRow(s, a, key)
	text += numbersText([]int{got}) + answerText(ok)
	put, ok := impl.PutRow(s, a, key, val)
	text += spoiledTable(put, ok)
	dropped, ok := impl.DropRow(s, a, key)
	text += spoiledTable(dropped, ok)
	for _, other := range [][]impl.Row{b, a, nil} {
		all, ok := impl.JoinTables(s, a, other)
		text += spoiledTable(all, ok)
		all, ok = impl.JoinTables(s, other, a)
		text += spoiledTable(all, ok)
	}
	for _, ends := range [][2]int{{key, key}, {0, key}, {key, 0}, {key, val}} {
		in, ok := impl.RowsIn(s, a, ends[0], ends[1])
		text += spoiledTable(in, ok)
	}
	return text
}

func checkTablesStay(t *testing.T, s impl.Space, a, b []impl.Row, key, val int) {
	t.Helper()
	want := allTableAnswers(s, cloneTable(a), cloneTable(b), key, val)
	for _, behind := range []int{key - len(a) - 3, 0, -1000} {
		wholeA, tableA := tableInMemory(a, behind)
		wholeB, tableB := tableInMemory(b, behind)
		was := tableText(wholeA) + tableText(wholeB)
		got := allTableAnswers(s, tableA, tableB, key, val)
		if tableText(wholeA)+tableText(wholeB) != was {
			t.Fatal("a table changed, or shared with an answer", s, was, tableText(wholeA), tableText(wholeB))
		}
		if got != want {
			t.Fatal("hangs on what lies behind a table", s, tableText(a), tableText(b), key, val, got, want)
		}
	}
}

func TestTablesStayAsTheyWere(t *testing.T) {
	for _, s := range fewSpaces() {
		tables := someTables(s)
		for i, a := range tables {
			b := tables[(i*5+2)%len(tables)]
			for k, key := range keysToAsk(s, a) {
				checkTablesStay(t, s, a, b, key, k)
			}
			checkTablesStay(t, s, a, b, -1, 3)
			checkTablesStay(t, s, a, b, 0, -1)
		}
	}
}

func TestWrongTablesStayAsTheyWere(t *testing.T) {
	for _, s := range fewSpaces() {
		wrong := wrongTables(s)
		for i := 0; i < len(wrong); i += 5 {
			if len(wrong[i]) < 20 {
				checkTablesStay(t, s, wrong[i], eightRows(), wrong[i][0].Key, 3)
				checkTablesStay(t, s, eightRows(), wrong[i], 7, 3)
			}
		}
	}
}

// Both tables may lie in one piece of memory, one over the other even.
func TestTablesThatShareMemory(t *testing.T) {
	s, _ := fiveRows()
	for from := 0; from <= 8; from++ {
		for to := from; to <= 8; to++ {
			whole := eightRows()
			a, b := whole[:to], whole[from:]
			want, has := modelJoinTables(s, cloneTable(a), cloneTable(b))
			for _, pair := range [][2][]impl.Row{{a, b}, {b, a}, {whole, a}, {b, whole}} {
				got, ok := impl.JoinTables(s, pair[0], pair[1])
				if ok != has || !sameRows(got, want) {
					t.Fatal(from, to, "got", tableText(got), ok)
				}
				spoilRows(got)
			}
			if !sameRows(whole, eightRows()) {
				t.Fatal("changed, or shared with an answer", from, to, tableText(whole))
			}
		}
	}
}

// What was handed in may change later, and so may other answers: one that is
// there does not.
func TestTablesAreNewMemory(t *testing.T) {
	for _, s := range fewSpaces() {
		for i, rows := range someTables(s) {
			given, other := cloneTable(rows), tableAt(keysOfTables(s)[i%5], i)
			key := keysToAsk(s, rows)[i%3]
			if len(rows) > 0 {
				key = rows[i%len(rows)].Key
			}
			put, _ := impl.PutRow(s, given, key, 4)
			dropped, _ := impl.DropRow(s, given, key)
			all, _ := impl.JoinTables(s, given, other)
			alone, _ := impl.JoinTables(s, given, nil)
			behind, _ := impl.JoinTables(s, nil, given)
			whole, _ := impl.RowsIn(s, given, key, key)
			part, _ := impl.RowsIn(s, given, 0, key)
			answers := [][]impl.Row{put, dropped, all, alone, behind, whole, part}
			var texts []string
			for _, answer := range answers {
				texts = append(texts, tableText(answer))
			}
			spoilRows(given)
			spoilRows(other)
			for k, answer := range answers {
				if tableText(answer) != texts[k] {
					t.Fatal("an answer shares memory", s, tableText(rows), k, tableText(answer), texts[k])
				}
				// Written over, it would show in one behind it that shares memory.
				spoilRows(answer)
			}
		}
	}
}

func TestNothingIsKeptOfTables(t *testing.T) {
	s, rows := fiveRows()
	want := allTableAnswers(s, rows, eightRows(), 7, 5)
	for _, other := range fewSpaces() {
		for _, table := range append(someTables(other), wrongTables(other)[:40]...) {
			allTableAnswers(other, table, rows, 0, 9)
			if got := allTableAnswers(s, rows, eightRows(), 7, 5); got != want {
				t.Fatal(got, want)
			}
		}
	}
}

// Many may ask of the same tables at one time.
func TestTablesAskedByManyAtOnce(t *testing.T) {
	s, rows := fiveRows()
	other := []impl.Row{{Key: 3, Ver: 4, Val: 9}, {Key: 9, Ver: 1000000, Gone: true}, {Key: 12, Ver: 2, Val: 1}}
	want := allTableAnswers(s, rows, other, 3, 5)
	var all sync.WaitGroup
	for range 20 {
		all.Go(func() {
			for range 20 {
				if got := allTableAnswers(s, rows, other, 3, 5); got != want {
					t.Error("got", got, "want", want)
				}
			}
		})
	}
	all.Wait()
}
