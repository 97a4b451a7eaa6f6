package tests

import (
	"math"

	"loop.example/g00749/impl"
)

// What chapter 2 says, worked out the slow way: by going round number by
// number and asking at each whether it is a member.

func modelGoodRing(s impl.Space, m []int) bool {
	if len(m) == 0 || len(m) > 16 || !contains(digitWidths[s.Bits], s.Digit) {
		return false
	}
	for i, x := range m {
		if x < 0 || x >= powerOf2(s.Bits) {
			return false
		}
		for _, y := range m[:i] {
			if y >= x {
				return false
			}
		}
	}
	return true
}

func oneDown(s impl.Space, x int) int {
	if x == 0 {
		return powerOf2(s.Bits) - 1
	}
	return x - 1
}

func modelOwner(s impl.Space, m []int, k int) int {
	for !contains(m, k) {
		k = oneUp(s, k)
	}
	return k
}

func modelNext(s impl.Space, m []int, x int) int {
	return modelOwner(s, m, oneUp(s, x))
}

func modelPrev(s impl.Space, m []int, x int) int {
	for x = oneDown(s, x); !contains(m, x); {
		x = oneDown(s, x)
	}
	return x
}

func modelListFrom(s impl.Space, m []int, x, many int) []int {
	var l []int
	for i := 0; i < many; i++ {
		x = modelNext(s, m, x)
		l = append(l, x)
	}
	return l
}

func modelGap(s impl.Space, m []int, x int) int {
	n := 1
	for y := oneUp(s, x); !contains(m, y); y = oneUp(s, y) {
		n++
	}
	return n
}

func modelKeys(s impl.Space, m []int, x int) int {
	n := 0
	for k := 0; k < powerOf2(s.Bits); k++ {
		if modelOwner(s, m, k) == x {
			n++
		}
	}
	return n
}

// membersWhere has the numbers of a space that a question is true for, in
// order.
func membersWhere(s impl.Space, is func(x int) bool) []int {
	var l []int
	for x := 0; x < powerOf2(s.Bits); x++ {
		if is(x) {
			l = append(l, x)
		}
	}
	return l
}

func modelJoin(s impl.Space, m []int, x int) []int {
	return membersWhere(s, func(y int) bool { return y == x || contains(m, y) })
}

func modelLeave(s impl.Space, m []int, x int) []int {
	return membersWhere(s, func(y int) bool { return y != x && contains(m, y) })
}

// allRings has every ring of a space of at most 4 bits, but only each step-th
// one and the one that holds every number.
func allRings(s impl.Space, step int) [][]int {
	var rings [][]int
	full := powerOf2(powerOf2(s.Bits)) - 1
	for set := 1; set <= full; set++ {
		if set%step == 1%step || set == full {
			rings = append(rings, membersWhere(s, func(x int) bool { return set>>x&1 == 1 }))
		}
	}
	return rings
}

// someRings has rings of a space with more than 4 bits: members alone, as many
// as there may be, crowded at an end, spread, and at uneven distances.
func someRings(s impl.Space) [][]int {
	size := powerOf2(s.Bits)
	step := size / 16
	rings := [][]int{
		{0}, {1}, {size / 2}, {size - 1},
		{0, 1}, {0, size - 1}, {size - 2, size - 1}, {size / 3, size / 2},
		{0, size / 2, size - 1}, {3, 4, 5, size / 2, size - 3},
	}
	for _, count := range []int{15, 16} {
		low, high, even := make([]int, count), make([]int, count), make([]int, count)
		for i := range low {
			low[i], high[i], even[i] = i, size-count+i, i*step+step/2
		}
		rings = append(rings, low, high, even)
	}
	var doubled []int
	for x := 1; x < size; x = 2*x + 1 {
		doubled = append(doubled, x)
	}
	return append(rings, doubled)
}

func ringsOf(s impl.Space) [][]int {
	switch {
	case s.Bits < 4:
		return allRings(s, 1)
	case s.Bits == 4:
		return append(allRings(s, 97), someRings(s)...)
	}
	return someRings(s)
}

// numbersNear has numbers of a space to ask a ring with: some, and those at,
// below and above each member.
func numbersNear(s impl.Space, m []int) []int {
	l := someNumbers(s)
	if powerOf2(s.Bits) > 16 {
		for _, x := range m {
			l = append(l, oneDown(s, x), x, oneUp(s, x))
		}
	}
	return l
}

// wrongRings has lists that are no ring of the space.
func wrongRings(s impl.Space) [][]int {
	size := powerOf2(s.Bits)
	rings := [][]int{
		nil, {}, {-1}, {size}, {0, size}, {-1, 0}, {0, 0}, {1, 0}, {1, 1}, {size - 1, 0},
		{size - 1, size}, {math.MinInt}, {math.MaxInt}, {math.MinInt, 0}, {0, math.MaxInt},
		{0, 1, 1}, {0, 1, 0}, {0, -1, 1}, {1 << 32}, {-size}, {2 * size},
		make([]int, 17), make([]int, 100000),
	}
	for _, many := range []int{17, 18, 1000} {
		rising := make([]int, many)
		for i := range rising {
			rising[i] = i
		}
		rings = append(rings, rising)
	}
	for at := 0; at < 16 && size > 16; at++ {
		for _, x := range []int{-1, size, at + 1, at - 1, math.MaxInt, math.MinInt} {
			m := make([]int, 16)
			for i := range m {
				m[i] = i
			}
			m[at] = x
			if !modelGoodRing(s, m) {
				rings = append(rings, m)
			}
		}
	}
	return rings
}
