package tests

import (
	"testing"

	"loop.example/g00749/impl"
)

func TestMaxBits(t *testing.T) {
	if impl.MaxBits != 12 {
		t.Error(impl.MaxBits)
	}
}

func TestGoodSpace(t *testing.T) {
	for _, s := range spacesUpTo(12) {
		if !impl.GoodSpace(s) {
			t.Error("good one refused", s)
		}
	}
	for _, s := range wrongSpaces() {
		if impl.GoodSpace(s) {
			t.Error("wrong one taken", s)
		}
	}
	for bits := -3; bits <= 16; bits++ {
		for digit := -3; digit <= 16; digit++ {
			want := contains(digitWidths[bits], digit)
			if impl.GoodSpace(impl.Space{Bits: bits, Digit: digit}) != want {
				t.Error(bits, digit, "want", want)
			}
		}
	}
}

func TestDistOf(t *testing.T) {
	for _, c := range []struct {
		s          impl.Space
		a, b, want int
	}{
		{impl.Space{Bits: 4, Digit: 2}, 3, 14, 11},
		{impl.Space{Bits: 4, Digit: 2}, 14, 3, 5},
		{impl.Space{Bits: 4, Digit: 2}, 7, 7, 0},
		{impl.Space{Bits: 4, Digit: 2}, 0, 15, 15},
		{impl.Space{Bits: 4, Digit: 2}, 15, 0, 1},
		{impl.Space{Bits: 1, Digit: 1}, 0, 1, 1},
		{impl.Space{Bits: 1, Digit: 1}, 1, 0, 1},
		{impl.Space{Bits: 12, Digit: 12}, 4095, 0, 1},
		{impl.Space{Bits: 12, Digit: 1}, 1, 0, 4095},
	} {
		if n, ok := impl.DistOf(c.s, c.a, c.b); n != c.want || !ok {
			t.Error(c, "got", n, ok)
		}
	}
	for _, s := range spacesUpTo(12) {
		for _, a := range someNumbers(s) {
			for _, b := range someNumbers(s) {
				if n, ok := impl.DistOf(s, a, b); n != modelDist(s, a, b) || !ok {
					t.Error(s, a, b, "got", n, ok)
				}
			}
		}
	}
}

func TestArcs(t *testing.T) {
	s := impl.Space{Bits: 4, Digit: 2}
	for _, c := range []struct {
		name          string
		from, x, to   int
		arc, strictly bool
	}{
		{"inside", 3, 5, 9, true, true},
		{"outside", 3, 10, 9, false, false},
		{"at from", 3, 3, 9, false, false},
		{"at to", 3, 9, 9, true, false},
		{"wrapped, ahead of 0", 14, 15, 3, true, true},
		{"wrapped, at 0", 14, 0, 3, true, true},
		{"wrapped, behind 0", 14, 2, 3, true, true},
		{"wrapped, at from", 14, 14, 3, false, false},
		{"wrapped, at to", 14, 3, 3, true, false},
		{"wrapped, outside", 14, 7, 3, false, false},
		{"nothing between", 6, 7, 7, true, false},
		{"all but from", 6, 5, 5, true, false},
		{"same ends, at them", 5, 5, 5, true, false},
		{"same ends, above", 5, 6, 5, true, true},
		{"same ends, below", 5, 4, 5, true, true},
		{"same ends, at 0", 0, 0, 0, true, false},
	} {
		if is, ok := impl.InArc(s, c.from, c.x, c.to); is != c.arc || !ok {
			t.Error("InArc", c.name, is, ok)
		}
		if is, ok := impl.Between(s, c.from, c.x, c.to); is != c.strictly || !ok {
			t.Error("Between", c.name, is, ok)
		}
	}
}

func TestArcsByModel(t *testing.T) {
	for _, s := range spacesUpTo(12) {
		for _, from := range someNumbers(s) {
			for _, x := range someNumbers(s) {
				for _, to := range someNumbers(s) {
					if is, ok := impl.InArc(s, from, x, to); is != modelInArc(s, from, x, to) || !ok {
						t.Fatal("InArc", s, from, x, to, "got", is, ok)
					}
					if is, ok := impl.Between(s, from, x, to); is != modelBetween(s, from, x, to) || !ok {
						t.Fatal("Between", s, from, x, to, "got", is, ok)
					}
				}
			}
		}
	}
}

func TestShiftIn(t *testing.T) {
	for _, c := range []struct {
		s              impl.Space
		x, digit, want int
	}{
		{impl.Space{Bits: 4, Digit: 2}, 1, 3, 7},
		{impl.Space{Bits: 4, Digit: 2}, 13, 2, 6},
		{impl.Space{Bits: 4, Digit: 2}, 15, 0, 12},
		{impl.Space{Bits: 4, Digit: 1}, 15, 0, 14},
		{impl.Space{Bits: 4, Digit: 4}, 9, 14, 14},
		{impl.Space{Bits: 1, Digit: 1}, 1, 0, 0},
		{impl.Space{Bits: 1, Digit: 1}, 0, 1, 1},
		{impl.Space{Bits: 12, Digit: 12}, 4095, 4095, 4095},
		{impl.Space{Bits: 12, Digit: 1}, 2048, 1, 1},
		{impl.Space{Bits: 12, Digit: 4}, 0xabc, 0xd, 0xbcd},
	} {
		if x, ok := impl.ShiftIn(c.s, c.x, c.digit); x != c.want || !ok {
			t.Error(c, "got", x, ok)
		}
	}
	for _, s := range spacesUpTo(12) {
		for _, x := range someNumbers(s) {
			for digit := 0; digit < powerOf2(s.Digit); digit++ {
				if y, ok := impl.ShiftIn(s, x, digit); y != modelShift(s, x, digit) || !ok {
					t.Fatal(s, x, digit, "got", y, ok)
				}
			}
		}
	}
}

func TestDigits(t *testing.T) {
	for _, c := range []struct {
		s impl.Space
		x int
		l []int
	}{
		{impl.Space{Bits: 4, Digit: 2}, 13, []int{3, 1}},
		{impl.Space{Bits: 4, Digit: 1}, 13, []int{1, 1, 0, 1}},
		{impl.Space{Bits: 4, Digit: 4}, 13, []int{13}},
		{impl.Space{Bits: 4, Digit: 2}, 0, []int{0, 0}},
		{impl.Space{Bits: 1, Digit: 1}, 1, []int{1}},
		{impl.Space{Bits: 12, Digit: 1}, 1, []int{0, 0, 0, 0, 0, 0, 0, 0, 0, 0, 0, 1}},
		{impl.Space{Bits: 12, Digit: 1}, 4095, []int{1, 1, 1, 1, 1, 1, 1, 1, 1, 1, 1, 1}},
		{impl.Space{Bits: 12, Digit: 12}, 4095, []int{4095}},
		{impl.Space{Bits: 12, Digit: 4}, 0xabc, []int{0xa, 0xb, 0xc}},
	} {
		if l, ok := impl.DigitsOf(c.s, c.x); !sameList(l, c.l) || !ok {
			t.Error(c, "got", l, ok)
		}
		if x, ok := impl.FromDigits(c.s, c.l); x != c.x || !ok {
			t.Error(c, "got", x, ok)
		}
	}
	for _, s := range spacesUpTo(12) {
		for x := 0; x < powerOf2(s.Bits); x++ {
			l, ok := impl.DigitsOf(s, x)
			if !sameList(l, modelDigits(s, x)) || !ok {
				t.Fatal("DigitsOf", s, x, "got", l, ok)
			}
			if y, ok := impl.FromDigits(s, l); y != x || !ok {
				t.Fatal("FromDigits", s, l, "got", y, ok)
			}
		}
	}
}

func TestOverlapOf(t *testing.T) {
	for _, c := range []struct {
		name       string
		s          impl.Space
		x, k, want int
	}{
		{"some", impl.Space{Bits: 4, Digit: 2}, 13, 4, 1},
		{"none", impl.Space{Bits: 4, Digit: 2}, 13, 11, 0},
		{"all", impl.Space{Bits: 4, Digit: 2}, 13, 13, 2},
		{"the greatest of several", impl.Space{Bits: 4, Digit: 1}, 0b0101, 0b0101, 4},
		{"two of four, not the one", impl.Space{Bits: 4, Digit: 1}, 0b0010, 0b1011, 2},
		{"a greater one with none below", impl.Space{Bits: 6, Digit: 1}, 0b000110, 0b110000, 3},
		{"the first of x do not count", impl.Space{Bits: 6, Digit: 2}, 0b111000, 0b110000, 0},
		{"one digit, the same", impl.Space{Bits: 12, Digit: 12}, 4095, 4095, 1},
		{"one digit, another", impl.Space{Bits: 12, Digit: 12}, 4095, 4094, 0},
		{"one bit, the same", impl.Space{Bits: 1, Digit: 1}, 0, 0, 1},
		{"one bit, another", impl.Space{Bits: 1, Digit: 1}, 0, 1, 0},
		{"twelve digits, all", impl.Space{Bits: 12, Digit: 1}, 0, 0, 12},
		{"twelve digits, all but one", impl.Space{Bits: 12, Digit: 1}, 2048, 0, 11},
		{"twelve digits, none", impl.Space{Bits: 12, Digit: 1}, 0, 4095, 0},
	} {
		if n, ok := impl.OverlapOf(c.s, c.x, c.k); n != c.want || !ok {
			t.Error(c.name, "got", n, ok)
		}
	}
	for _, s := range spacesUpTo(7) {
		for x := 0; x < powerOf2(s.Bits); x++ {
			for k := 0; k < powerOf2(s.Bits); k++ {
				if n, ok := impl.OverlapOf(s, x, k); n != modelOverlap(s, x, k) || !ok {
					t.Fatal(s, x, k, "got", n, ok)
				}
			}
		}
	}
}

// Promise 1, with the program's own functions alone: whatever overlaps, the
// digits behind it make the number.
func TestPromise1(t *testing.T) {
	for _, s := range spacesUpTo(7) {
		for x := 0; x < powerOf2(s.Bits); x++ {
			for k := 0; k < powerOf2(s.Bits); k++ {
				checkPromise1(t, s, x, k)
			}
		}
	}
	for _, s := range spacesUpTo(12) {
		for x := 0; x < powerOf2(s.Bits); x += 37 {
			for k := x % 5; k < powerOf2(s.Bits); k += 41 {
				checkPromise1(t, s, x, k)
			}
			checkPromise1(t, s, x, x)
		}
	}
}

func checkPromise1(t *testing.T, s impl.Space, x, k int) {
	n, ok := impl.OverlapOf(s, x, k)
	if !ok {
		t.Fatal("no overlap", s, x, k)
	}
	l, ok := impl.DigitsOf(s, k)
	if !ok || n < 0 || n > len(l) {
		t.Fatal("no digits", s, k, l, n)
	}
	at := x
	for _, digit := range l[n:] {
		if at, ok = impl.ShiftIn(s, at, digit); !ok {
			t.Fatal("no shift", s, x, k, digit)
		}
	}
	if at != k {
		t.Fatal(s, "from", x, "to", k, "overlap", n, "came to", at)
	}
}
