package tests

import (
	"math"
	"testing"

	"loop.example/g00749/impl"
)

// Promise 18 for chapter 2: the zero answer for all that is wrong, nothing
// written into a ring that is handed in, and answers that are new memory.

func wantZeroNumber(t *testing.T, name string, s impl.Space, m []int, x, y int, ok bool) {
	t.Helper()
	if y != 0 || ok {
		t.Fatal(name, s, m, x, "got", y, ok)
	}
}

func wantZeroList(t *testing.T, name string, s impl.Space, m []int, x int, l []int, ok bool) {
	t.Helper()
	if len(l) != 0 || ok {
		t.Fatal(name, s, m, x, "got", l, ok)
	}
}

// Zero at what is wrong for a function of any number of the space.
func wantZeroOfNumber(t *testing.T, s impl.Space, m []int, x int) {
	t.Helper()
	y, ok := impl.OwnerOf(s, m, x)
	wantZeroNumber(t, "OwnerOf", s, m, x, y, ok)
	y, ok = impl.NextOf(s, m, x)
	wantZeroNumber(t, "NextOf", s, m, x, y, ok)
	y, ok = impl.PrevOf(s, m, x)
	wantZeroNumber(t, "PrevOf", s, m, x, y, ok)
	l, ok := impl.JoinRing(s, m, x)
	wantZeroList(t, "JoinRing", s, m, x, l, ok)
	for _, many := range []int{0, 1, 2, 16} {
		l, ok = impl.ListFrom(s, m, x, many)
		wantZeroList(t, "ListFrom", s, m, x, l, ok)
	}
}

// Zero at what is wrong for a function of a member.
func wantZeroOfMember(t *testing.T, s impl.Space, m []int, x int) {
	t.Helper()
	y, ok := impl.GapOf(s, m, x)
	wantZeroNumber(t, "GapOf", s, m, x, y, ok)
	y, ok = impl.KeysOf(s, m, x)
	wantZeroNumber(t, "KeysOf", s, m, x, y, ok)
	l, ok := impl.LeaveRing(s, m, x)
	wantZeroList(t, "LeaveRing", s, m, x, l, ok)
}

func TestRingsOfWrongSpaces(t *testing.T) {
	for _, s := range wrongSpaces() {
		for _, m := range [][]int{nil, {}, {0}, {1}, {0, 1}, {0, 1, 2}, {-1}, {5, 4095}} {
			for _, x := range []int{0, 1, 2, -1, 4095, math.MaxInt, math.MinInt} {
				wantZeroOfNumber(t, s, m, x)
				wantZeroOfMember(t, s, m, x)
			}
		}
	}
}

func TestWrongRings(t *testing.T) {
	for _, s := range spacesUpTo(12) {
		for _, m := range wrongRings(s) {
			numbers := append(wrongNumbers(s), 0, 1, powerOf2(s.Bits)-1, powerOf2(s.Bits)/2)
			for i := 0; i < len(m) && i < 17; i++ {
				numbers = append(numbers, m[i])
			}
			for _, x := range numbers {
				wantZeroOfNumber(t, s, m, x)
				wantZeroOfMember(t, s, m, x)
			}
		}
	}
}

func TestNumbersOutsideTheSpace(t *testing.T) {
	for _, s := range spacesUpTo(12) {
		for _, m := range ringsOf(s) {
			for _, x := range wrongNumbers(s) {
				wantZeroOfNumber(t, s, m, x)
				wantZeroOfMember(t, s, m, x)
			}
		}
	}
}

func TestNumbersThatAreNoMembers(t *testing.T) {
	for _, s := range spacesUpTo(12) {
		for _, m := range ringsOf(s) {
			for _, x := range numbersNear(s, m) {
				if !contains(m, x) {
					wantZeroOfMember(t, s, m, x)
				}
			}
		}
	}
}

func TestJoinOfAMember(t *testing.T) {
	for _, s := range spacesUpTo(12) {
		for _, m := range ringsOf(s) {
			for _, x := range m {
				l, ok := impl.JoinRing(s, m, x)
				wantZeroList(t, "JoinRing", s, m, x, l, ok)
			}
		}
	}
}

func TestWrongMany(t *testing.T) {
	for _, s := range spacesUpTo(12) {
		for _, m := range someWrongAndGood(s) {
			for _, many := range []int{-1, -16, 17, 18, 1 << 32, math.MaxInt, math.MinInt} {
				for _, x := range []int{0, 1, -1} {
					l, ok := impl.ListFrom(s, m, x, many)
					wantZeroList(t, "ListFrom", s, m, x, l, ok)
				}
			}
		}
	}
}

func someWrongAndGood(s impl.Space) [][]int {
	return append([][]int{{0}, {1}, {0, 1}}, wrongRings(s)[:8]...)
}

// A ring in the midst of more memory, with numbers behind its length that
// would go on rising.
func ringInMemory(m []int) (whole, ring []int) {
	whole = make([]int, len(m)+8)
	for i := range whole {
		whole[i] = -1000 + i
	}
	copy(whole[4:], m)
	for i := 4 + len(m); i < len(whole); i++ {
		whole[i] = whole[i-1] + 1
	}
	return whole, whole[4 : 4+len(m)]
}

type ringAnswers struct {
	numbers [5]int
	oks     [9]bool
	lists   [4]string
}

func allRingAnswers(s impl.Space, m []int, x int) ringAnswers {
	var a ringAnswers
	a.oks[0] = impl.GoodRing(s, m)
	a.numbers[0], a.oks[1] = impl.OwnerOf(s, m, x)
	a.numbers[1], a.oks[2] = impl.NextOf(s, m, x)
	a.numbers[2], a.oks[3] = impl.PrevOf(s, m, x)
	a.numbers[3], a.oks[4] = impl.GapOf(s, m, x)
	a.numbers[4], a.oks[5] = impl.KeysOf(s, m, x)
	for i, many := range []int{len(m) + 1, 16} {
		l, ok := impl.ListFrom(s, m, x, many)
		a.lists[i], a.oks[6] = textOf(l), ok
		spoil(l)
	}
	l, ok := impl.JoinRing(s, m, x)
	a.lists[2], a.oks[7] = textOf(l), ok
	spoil(l)
	l, ok = impl.LeaveRing(s, m, x)
	a.lists[3], a.oks[8] = textOf(l), ok
	spoil(l)
	return a
}

func textOf(l []int) string {
	text := ""
	for _, x := range l {
		text += string(rune(x+5000)) + " "
	}
	return text
}

// spoil writes over an answer, behind its length too: an argument that shares
// memory with it would show that.
func spoil(l []int) {
	l = l[:cap(l)]
	for i := range l {
		l[i] = -77
	}
}

func TestRingsStayAsTheyWere(t *testing.T) {
	for _, s := range spacesUpTo(12) {
		for _, m := range append(ringsOf(s), wrongRings(s)...) {
			if len(m) > 20 {
				continue
			}
			for _, x := range []int{0, 1, powerOf2(s.Bits) / 2, powerOf2(s.Bits) - 1, -1} {
				checkRingStays(t, s, m, x)
			}
			for _, x := range m {
				checkRingStays(t, s, m, x)
			}
		}
	}
}

func checkRingStays(t *testing.T, s impl.Space, m []int, x int) {
	t.Helper()
	whole, ring := ringInMemory(m)
	was := append([]int(nil), whole...)
	first := allRingAnswers(s, ring, x)
	if !sameList(whole, was) {
		t.Fatal("ring changed, or shared with an answer", s, m, x, was, whole)
	}
	for i := 4 + len(m); i < len(whole); i++ {
		whole[i] = x
	}
	if again := allRingAnswers(s, ring, x); again != first {
		t.Fatal("hangs on what lies behind the ring", s, m, x, first, again)
	}
	if plain := allRingAnswers(s, append([]int(nil), m...), x); plain != first {
		t.Fatal("hangs on where the ring lies", s, m, x, first, plain)
	}
}

// A ring that is handed in may change later: an answer does not.
func TestAnswersAreNewMemory(t *testing.T) {
	s := impl.Space{Bits: 5, Digit: 1}
	for _, m := range ringsOf(s) {
		for _, x := range numbersNear(s, m) {
			ring := append([]int(nil), m...)
			listed, _ := impl.ListFrom(s, ring, x, len(m))
			joined, _ := impl.JoinRing(s, ring, x)
			left, _ := impl.LeaveRing(s, ring, x)
			texts := textOf(listed) + "/" + textOf(joined) + "/" + textOf(left)
			spoil(ring)
			if now := textOf(listed) + "/" + textOf(joined) + "/" + textOf(left); now != texts {
				t.Fatal("an answer shares memory with the ring", m, x)
			}
			other, _ := impl.JoinRing(s, append([]int(nil), m...), x)
			spoil(joined)
			if len(other) > 0 && other[0] == -77 {
				t.Fatal("two answers share memory", m, x)
			}
		}
	}
}

func TestNothingIsKeptOfRings(t *testing.T) {
	s := impl.Space{Bits: 4, Digit: 2}
	m := []int{2, 5, 11}
	want := allRingAnswers(s, m, 5)
	for _, wrong := range wrongRings(s) {
		allRingAnswers(s, wrong, 5)
		allRingAnswers(impl.Space{Bits: 12, Digit: 1}, []int{5, 4095}, 5)
		allRingAnswers(s, []int{0, 1, 2, 3, 4, 5, 6, 7, 8, 9, 10, 11, 12, 13, 14, 15}, 5)
		if got := allRingAnswers(s, m, 5); got != want {
			t.Fatal(got, want)
		}
	}
}
