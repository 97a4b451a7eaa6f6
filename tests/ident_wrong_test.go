package tests

import (
	"math"
	"testing"

	"loop.example/g00749/impl"
)

// Promise 18 for chapter 1: the zero answer for all that is wrong, nothing
// written into an argument, and answers that are new memory.

func wantZeroTriple(t *testing.T, s impl.Space, a, b, c int) {
	t.Helper()
	if is, ok := impl.InArc(s, a, b, c); is || ok {
		t.Error("InArc", s, a, b, c, is, ok)
	}
	if is, ok := impl.Between(s, a, b, c); is || ok {
		t.Error("Between", s, a, b, c, is, ok)
	}
}

func wantZeroPair(t *testing.T, s impl.Space, a, b int) {
	t.Helper()
	if n, ok := impl.DistOf(s, a, b); n != 0 || ok {
		t.Error("DistOf", s, a, b, n, ok)
	}
	if n, ok := impl.OverlapOf(s, a, b); n != 0 || ok {
		t.Error("OverlapOf", s, a, b, n, ok)
	}
}

func wantZeroShift(t *testing.T, s impl.Space, x, digit int) {
	t.Helper()
	if y, ok := impl.ShiftIn(s, x, digit); y != 0 || ok {
		t.Error("ShiftIn", s, x, digit, y, ok)
	}
}

func wantZeroDigits(t *testing.T, s impl.Space, x int) {
	t.Helper()
	if l, ok := impl.DigitsOf(s, x); len(l) != 0 || ok {
		t.Error("DigitsOf", s, x, l, ok)
	}
}

func wantZeroFrom(t *testing.T, s impl.Space, l []int) {
	t.Helper()
	if x, ok := impl.FromDigits(s, l); x != 0 || ok {
		t.Error("FromDigits", s, l, x, ok)
	}
}

func TestWrongSpaces(t *testing.T) {
	numbers := []int{0, 1, 2, -1, 4095, math.MaxInt, math.MinInt}
	for _, s := range wrongSpaces() {
		for _, a := range numbers {
			wantZeroDigits(t, s, a)
			for _, b := range numbers {
				wantZeroPair(t, s, a, b)
				wantZeroShift(t, s, a, b)
				for _, c := range numbers {
					wantZeroTriple(t, s, a, b, c)
				}
			}
		}
		wantZeroFrom(t, s, nil)
		for n := 0; n <= 14; n++ {
			wantZeroFrom(t, s, make([]int, n))
		}
	}
}

func TestWrongNumbers(t *testing.T) {
	for _, s := range spacesUpTo(12) {
		top := powerOf2(s.Bits) - 1
		for _, x := range wrongNumbers(s) {
			wantZeroDigits(t, s, x)
			wantZeroShift(t, s, x, 0)
			wantZeroShift(t, s, x, powerOf2(s.Digit)-1)
			for _, good := range []int{0, 1, top} {
				wantZeroPair(t, s, x, good)
				wantZeroPair(t, s, good, x)
				wantZeroTriple(t, s, x, good, good)
				wantZeroTriple(t, s, good, x, good)
				wantZeroTriple(t, s, good, good, x)
				wantZeroTriple(t, s, good, x, top-good)
			}
			for _, y := range wrongNumbers(s) {
				wantZeroPair(t, s, x, y)
				wantZeroTriple(t, s, x, y, x)
				wantZeroTriple(t, s, y, x, x)
			}
		}
	}
}

func TestWrongDigits(t *testing.T) {
	for _, s := range spacesUpTo(12) {
		many := s.Bits / s.Digit
		for _, digit := range wrongDigits(s) {
			for _, x := range someNumbers(s) {
				wantZeroShift(t, s, x, digit)
			}
			for _, x := range wrongNumbers(s) {
				wantZeroShift(t, s, x, digit)
			}
			for place := 0; place < many; place++ {
				l := make([]int, many)
				l[place] = digit
				wantZeroFrom(t, s, l)
			}
		}
	}
}

// Lists that are made for the sum to be a number, though a digit is none.
func TestWrongDigitsThatAddUp(t *testing.T) {
	wantZeroFrom(t, impl.Space{Bits: 4, Digit: 2}, []int{0, 4})
	wantZeroFrom(t, impl.Space{Bits: 4, Digit: 2}, []int{1, -1})
	wantZeroFrom(t, impl.Space{Bits: 12, Digit: 4}, []int{0, 0, 16})
	wantZeroFrom(t, impl.Space{Bits: 12, Digit: 4}, []int{16, 0, 0})
	wantZeroFrom(t, impl.Space{Bits: 12, Digit: 1}, []int{0, 0, 0, 0, 0, 0, 0, 0, 0, 0, 1, -1})
}

func TestWrongLengths(t *testing.T) {
	for _, s := range spacesUpTo(12) {
		many := s.Bits / s.Digit
		wantZeroFrom(t, s, nil)
		for n := 0; n <= 30; n++ {
			if n != many {
				wantZeroFrom(t, s, make([]int, n))
				ones := make([]int, n)
				for i := range ones {
					ones[i] = 1
				}
				wantZeroFrom(t, s, ones)
			}
		}
		wantZeroFrom(t, s, make([]int, 100000))
	}
}

// Behind the list's length lies memory that is neither read nor written.
func TestFromDigitsLeavesItsList(t *testing.T) {
	for _, s := range spacesUpTo(12) {
		many := s.Bits / s.Digit
		for _, n := range []int{many - 1, many, many + 1} {
			for _, digit := range []int{0, 1, powerOf2(s.Digit) - 1, powerOf2(s.Digit), -1} {
				checkListStays(t, s, n, digit)
			}
		}
	}
}

func checkListStays(t *testing.T, s impl.Space, n, digit int) {
	whole := make([]int, n+6)
	for i := range whole {
		whole[i] = 7000 + i
	}
	l := whole[3 : 3+n]
	for i := range l {
		l[i] = digit
	}
	was := append([]int(nil), whole...)
	first, firstOk := impl.FromDigits(s, l)
	if !sameList(whole, was) {
		t.Error("list changed", s, was, whole)
	}
	for i := 3 + n; i < len(whole); i++ {
		whole[i] = -i
	}
	if again, ok := impl.FromDigits(s, l); again != first || ok != firstOk {
		t.Error("hangs on what lies behind the list", s, l, first, again)
	}
}

// Answers share no memory with one another, nor with what is asked with them.
func TestDigitsAreNewMemory(t *testing.T) {
	for _, s := range spacesUpTo(12) {
		for _, x := range someNumbers(s) {
			a, _ := impl.DigitsOf(s, x)
			b, _ := impl.DigitsOf(s, x)
			whole := a[:cap(a)]
			for i := range whole {
				whole[i] = -1
			}
			if !sameList(b, modelDigits(s, x)) {
				t.Fatal("one answer is seen in another one", s, x, b)
			}
			if c, ok := impl.DigitsOf(s, x); !sameList(c, modelDigits(s, x)) || !ok {
				t.Fatal("an answer is kept", s, x, c)
			}
			impl.FromDigits(s, b)
			if !sameList(b, modelDigits(s, x)) {
				t.Fatal("list changed", s, x, b)
			}
		}
	}
}

// What is asked ahead does not show in an answer.
func TestNothingIsKept(t *testing.T) {
	s := impl.Space{Bits: 4, Digit: 2}
	for i := 0; i < 3; i++ {
		if n, ok := impl.OverlapOf(s, 13, 4); n != 1 || !ok {
			t.Error("OverlapOf", i, n, ok)
		}
		impl.OverlapOf(impl.Space{Bits: 12, Digit: 1}, 4095, 4095)
		impl.OverlapOf(s, -1, 99)
		if l, ok := impl.DigitsOf(s, 13); !sameList(l, []int{3, 1}) || !ok {
			t.Error("DigitsOf", i, l, ok)
		}
		impl.DigitsOf(impl.Space{Bits: 12, Digit: 1}, 4095)
		impl.FromDigits(s, []int{3, 9})
	}
}
