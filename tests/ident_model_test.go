package tests

import (
	"math"

	"loop.example/g00749/impl"
)

// What chapter 1 says, worked out the slow way: by going round step by step
// and by digits in lists. The program is held against these.

// digitWidths has, for each number of bits, which digits divide it.
var digitWidths = map[int][]int{
	1: {1}, 2: {1, 2}, 3: {1, 3}, 4: {1, 2, 4}, 5: {1, 5}, 6: {1, 2, 3, 6},
	7: {1, 7}, 8: {1, 2, 4, 8}, 9: {1, 3, 9}, 10: {1, 2, 5, 10}, 11: {1, 11},
	12: {1, 2, 3, 4, 6, 12},
}

func spacesUpTo(bits int) []impl.Space {
	var l []impl.Space
	for b := 1; b <= bits; b++ {
		for _, d := range digitWidths[b] {
			l = append(l, impl.Space{Bits: b, Digit: d})
		}
	}
	return l
}

func powerOf2(n int) int {
	x := 1
	for ; n > 0; n-- {
		x *= 2
	}
	return x
}

// someNumbers has numbers of a space: all of a small one, of a great one both
// ends and some that lie between.
func someNumbers(s impl.Space) []int {
	size := powerOf2(s.Bits)
	var l []int
	for x := 0; x < size; x++ {
		if size <= 16 || x < 2 || x >= size-2 || x%(size/11) == 1 || x == size/2 {
			l = append(l, x)
		}
	}
	return l
}

func wrongNumbers(s impl.Space) []int {
	size := powerOf2(s.Bits)
	return []int{-1, -2, -size, size, size + 1, 2 * size, 1 << 32, 1 << 62, math.MaxInt, math.MinInt}
}

func wrongDigits(s impl.Space) []int {
	base := powerOf2(s.Digit)
	return []int{-1, -base, base, base + 1, 1 << 32, math.MaxInt, math.MinInt}
}

func wrongSpaces() []impl.Space {
	l := []impl.Space{
		{Bits: 0, Digit: 0}, {Bits: 0, Digit: 1}, {Bits: -1, Digit: 1}, {Bits: -1, Digit: -1},
		{Bits: -4, Digit: 2}, {Bits: 13, Digit: 1}, {Bits: 13, Digit: 13}, {Bits: 14, Digit: 2},
		{Bits: 64, Digit: 1}, {Bits: math.MaxInt, Digit: 1}, {Bits: math.MaxInt, Digit: math.MaxInt},
		{Bits: math.MinInt, Digit: 1}, {Bits: math.MinInt, Digit: -1}, {Bits: math.MinInt, Digit: math.MinInt},
	}
	for bits := 1; bits <= 12; bits++ {
		for _, digit := range []int{math.MinInt, -bits, -1, 0, bits + 1, 2 * bits, math.MaxInt} {
			l = append(l, impl.Space{Bits: bits, Digit: digit})
		}
		for digit := 1; digit <= bits; digit++ {
			if !contains(digitWidths[bits], digit) {
				l = append(l, impl.Space{Bits: bits, Digit: digit})
			}
		}
	}
	return l
}

func contains(l []int, x int) bool {
	for _, y := range l {
		if x == y {
			return true
		}
	}
	return false
}

func sameList(a, b []int) bool {
	if len(a) != len(b) {
		return false
	}
	for i := range a {
		if a[i] != b[i] {
			return false
		}
	}
	return true
}

func oneUp(s impl.Space, x int) int {
	if x == powerOf2(s.Bits)-1 {
		return 0
	}
	return x + 1
}

func modelDist(s impl.Space, a, b int) int {
	n := 0
	for ; a != b; a = oneUp(s, a) {
		n++
	}
	return n
}

func modelInArc(s impl.Space, from, x, to int) bool {
	if from == to {
		return true
	}
	for y := oneUp(s, from); ; y = oneUp(s, y) {
		if y == x || y == to {
			return y == x
		}
	}
}

func modelBetween(s impl.Space, from, x, to int) bool {
	return x != from && x != to && modelInArc(s, from, x, to)
}

func modelShift(s impl.Space, x, digit int) int {
	x = x*powerOf2(s.Digit) + digit
	for x >= powerOf2(s.Bits) {
		x -= powerOf2(s.Bits)
	}
	return x
}

func modelDigits(s impl.Space, x int) []int {
	var l []int
	for i := 0; i < s.Bits/s.Digit; i++ {
		weight := powerOf2(s.Bits - (i+1)*s.Digit)
		l = append(l, x/weight)
		x -= x / weight * weight
	}
	return l
}

func modelOverlap(s impl.Space, x, k int) int {
	a, b := modelDigits(s, x), modelDigits(s, k)
	most := 0
	for n := 1; n <= len(a); n++ {
		if sameList(a[len(a)-n:], b[:n]) {
			most = n
		}
	}
	return most
}
