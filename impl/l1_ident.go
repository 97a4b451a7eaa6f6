package impl

const MaxBits = 12

type Space struct {
	Bits  int
	Digit int
}

// Where a number stands, going up from one end of an arc to the other one.
const (
	placeOutside = iota
	placeFrom
	placeInside
	placeTo
	placeBothEnds
)

// A digitRow has digits from its front on and 0 behind them, so that two rows
// with as many digits are the same just where their digits are.
type digitRow [MaxBits]int

func GoodSpace(s Space) bool {
	if s.Bits < 1 || s.Bits > MaxBits {
		return false
	}
	return s.Digit >= 1 && s.Digit <= s.Bits && s.Bits%s.Digit == 0
}

func DistOf(s Space, a int, b int) (int, bool) {
	if !isNumber(s, a) || !isNumber(s, b) {
		return 0, false
	}
	return distUp(s, a, b), true
}

func InArc(s Space, from int, x int, to int) (bool, bool) {
	if !isNumber(s, from) || !isNumber(s, x) || !isNumber(s, to) {
		return false, false
	}
	switch placeOf(s, from, x, to) {
	case placeInside, placeTo, placeBothEnds:
		return true, true
	}
	return false, true
}

func Between(s Space, from int, x int, to int) (bool, bool) {
	if !isNumber(s, from) || !isNumber(s, x) || !isNumber(s, to) {
		return false, false
	}
	return placeOf(s, from, x, to) == placeInside, true
}

func ShiftIn(s Space, x int, digit int) (int, bool) {
	if !isNumber(s, x) || !isDigit(s, digit) {
		return 0, false
	}
	return (x*baseOf(s) + digit) % sizeOf(s), true
}

func DigitsOf(s Space, x int) ([]int, bool) {
	if !isNumber(s, x) {
		return nil, false
	}
	row := rowOf(s, x)
	l := make([]int, digitCount(s))
	copy(l, row[:])
	return l, true
}

func FromDigits(s Space, l []int) (int, bool) {
	if !GoodSpace(s) || len(l) != digitCount(s) {
		return 0, false
	}
	x := 0
	for _, digit := range l {
		if !isDigit(s, digit) {
			return 0, false
		}
		x = x*baseOf(s) + digit
	}
	return x, true
}

func OverlapOf(s Space, x int, k int) (int, bool) {
	if !isNumber(s, x) || !isNumber(s, k) {
		return 0, false
	}
	n := digitCount(s)
	for n > 0 && lastDigits(s, x, n) != firstDigits(s, k, n) {
		n--
	}
	return n, true
}

// The functions below take a good space, but for isNumber and isDigit, which
// ask for that themselves.

func isNumber(s Space, x int) bool {
	return GoodSpace(s) && x >= 0 && x < sizeOf(s)
}

func isDigit(s Space, digit int) bool {
	return GoodSpace(s) && digit >= 0 && digit < baseOf(s)
}

func sizeOf(s Space) int {
	return 1 << s.Bits
}

func baseOf(s Space) int {
	return 1 << s.Digit
}

func digitCount(s Space) int {
	return s.Bits / s.Digit
}

func distUp(s Space, a int, b int) int {
	// A remainder takes the sign of what is divided: the size keeps it from
	// being below 0.
	return (b - a + sizeOf(s)) % sizeOf(s)
}

func placeOf(s Space, from int, x int, to int) int {
	switch {
	case x == from && x == to:
		return placeBothEnds
	case x == from:
		return placeFrom
	case x == to:
		return placeTo
	case from == to || distUp(s, from, x) < distUp(s, from, to):
		return placeInside
	}
	return placeOutside
}

func rowOf(s Space, x int) digitRow {
	var row digitRow
	for i := digitCount(s) - 1; i >= 0; i-- {
		row[i] = x % baseOf(s)
		x /= baseOf(s)
	}
	return row
}

func firstDigits(s Space, x int, n int) digitRow {
	row := rowOf(s, x)
	var first digitRow
	copy(first[:], row[:n])
	return first
}

func lastDigits(s Space, x int, n int) digitRow {
	row := rowOf(s, x)
	many := digitCount(s)
	var last digitRow
	copy(last[:], row[many-n:many])
	return last
}
