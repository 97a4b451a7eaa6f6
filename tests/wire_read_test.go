package tests

import (
	"strings"
	"testing"

	"loop.example/g00749/impl"
)

// Texts that are no message, and which code is told of them.

// strayText has bytes as a seed has it, each less than below.
func strayText(seed, long, below int) string {
	b := make([]byte, long)
	x := uint32(seed)*2654435761 + 12345
	for i := range b {
		x = x*1664525 + 1013904223
		b[i] = byte(x >> 16 % uint32(below))
	}
	return string(b)
}

func wantCode(t *testing.T, name string, s impl.Space, b string, want int) {
	t.Helper()
	if m, code, ok := impl.ReadMsg(s, b); !sameText(m, impl.Msg{}) || code != want || ok {
		t.Errorf("%s: %v %q: got %v %d %v, want %d", name, s, b, m, code, ok, want)
	}
	if _, model := modelRead(s, b); model != want {
		t.Errorf("%s: %v %q: the model has %d, want %d", name, s, b, model, want)
	}
}

func TestReadMsgFaults(t *testing.T) {
	s := impl.Space{Bits: 4, Digit: 2}
	get := "\x08\x08\x0a\x00\x0f\x00\x00\x00\x01"
	tell := "\x0b\x05\x04\x00\x05\x00\x06\x00\x07\x01\x00\x00"
	find := "\x0e\x01\x07\x00\x04\x00\x0c\x00\x09\x00\x06\x00\x02\x01\x2c"
	behind := func(n int) string { return strings.Repeat("\x01", n) }
	for _, c := range []struct {
		name, b string
		want    int
	}{
		{"no byte", "", impl.ErShort},
		{"one byte of 0", "\x00", impl.ErKind},
		{"one byte that wants one more", "\x01", impl.ErShort},
		{"one byte that wants all", "\xff", impl.ErShort},
		{"one fewer", get[:8], impl.ErShort},
		{"all but the first one missing", get[:1], impl.ErShort},
		{"one fewer, by the first byte", "\x09" + get[1:], impl.ErShort},
		{"one more", get + "\x00", impl.ErLong},
		{"one more, by the first byte", "\x07" + get[1:], impl.ErLong},
		{"a byte of 0, and one more", "\x00\x00", impl.ErLong},
		{"two messages", get + get, impl.ErLong},
		{"no kind behind it", "\x01\x08", impl.ErKind},
		{"a kind alone that is none", "\x01\x00", impl.ErKind},
		{"a kind of 0", "\x02\x00\x00", impl.ErKind},
		{"a kind of 9", "\x02\x09\x00", impl.ErKind},
		{"a kind of 255", "\x02\xff\x00", impl.ErKind},
		{"a kind and a Look alone", "\x02\x08\x0a", impl.ErForm},
		{"To alone", "\x04\x04\x00\x00\x00", impl.ErForm},
		{"ask, one byte too few", "\x05\x04\x00\x00\x00\x00", impl.ErForm},
		{"ask, one byte too many", "\x07\x04\x00\x00\x00\x00\x00\x00", impl.ErForm},
		{"ask, one number too many", "\x08\x04\x00\x00\x00\x00\x00\x00\x00", impl.ErForm},
		{"get, no number", "\x06\x08\x00\x00\x00\x00\x00", impl.ErForm},
		{"tell, no byte for the List", "\x08\x05\x04\x00\x05\x00\x06\x00\x07", impl.ErForm},
		{"tell, one number fewer", retold(tell[:10]), impl.ErForm},
		{"tell, half a number", retold(tell[:11]), impl.ErForm},
		{"tell, one number more", retold(tell + "\x00\x01"), impl.ErForm},
		{"tell, five", retold(tell[:9] + "\x05" + behind(10)), impl.ErForm},
		{"tell, says five and has four", retold(tell[:9] + "\x05" + behind(8)), impl.ErForm},
		{"tell, 255", retold(tell[:9] + "\xff"), impl.ErForm},
		{"tell, 27 of 63 bytes", retold(tell[:9] + "\x1b" + behind(54)), impl.ErForm},
		{"To outside", "\x06\x04\x00\x00\x10\x00\x00", impl.ErSpace},
		{"From outside", "\x06\x04\x00\x00\x00\x00\x10", impl.ErSpace},
		{"To far outside", "\x06\x04\x00\x01\x00\x00\x00", impl.ErSpace},
		{"From as far as can be", "\x06\x04\x00\x00\x00\xff\xff", impl.ErSpace},
		{"Key outside", get[:7] + "\x00\x10", impl.ErSpace},
		{"Imag outside", find[:9] + "\x00\x10" + find[11:], impl.ErSpace},
		{"one Left more", find[:11] + "\x00\x03" + find[13:], impl.ErSpace},
		{"Left 256", find[:11] + "\x01\x00" + find[13:], impl.ErSpace},
		{"Hops 1001", find[:13] + "\x03\xe9", impl.ErSpace},
		{"Hops 65535", find[:13] + "\xff\xff", impl.ErSpace},
		{"one in the List outside", tell[:10] + "\x00\x10", impl.ErSpace},
		{"the last of four outside", retold(tell[:9] + "\x04\x00\x01\x00\x02\x00\x03\x00\x10"), impl.ErSpace},
	} {
		wantCode(t, c.name, s, c.b, c.want)
	}
}

// Where two things are wrong the first one in the document's order is told,
// wherever in the text they are: ErForm is ahead of ErSpace.
func TestReadMsgTwoFaults(t *testing.T) {
	s := impl.Space{Bits: 4, Digit: 2}
	long := strings.Repeat("\x00", 200)
	for _, c := range []struct {
		name, b string
		want    int
	}{
		{"short and too many in all", "\xff" + long, impl.ErShort},
		{"short and no kind", "\x05\x09\x00", impl.ErShort},
		{"short and a form", "\x07\x04\x00\x00\x00\x00\x00", impl.ErShort},
		{"short and outside", "\x07\x04\x00\xff\xff\xff\xff", impl.ErShort},
		{"short of two bytes", "\x02\x09", impl.ErShort},
		{"more and too many in all", "\x01" + long, impl.ErLong},
		{"more and no two bytes by the first one", "\x00\x04", impl.ErLong},
		{"more and no kind", "\x02\x09\x00\x00", impl.ErLong},
		{"more and a form", "\x02\x04\x00\x00", impl.ErLong},
		{"more and outside", "\x05\x04\x00\xff\xff\xff\xff", impl.ErLong},
		{"too many in all and no kind", "\x40\x09" + long[:63], impl.ErLong},
		{"too many in all and a form", "\x40\x04" + long[:63], impl.ErLong},
		{"no kind and a form", "\x03\x00\x00\x00", impl.ErKind},
		{"no kind and outside", "\x06\x09\x00\xff\xff\xff\xff", impl.ErKind},
		{"a form and To outside", "\x07\x04\x00\x00\x10\x00\x00\x00", impl.ErForm},
		{"a form behind numbers outside", "\x08\x04\x00\xff\xff\xff\xff\xff\xff", impl.ErForm},
		{"too few behind a number outside", "\x04\x04\x00\xff\xff", impl.ErForm},
		{"five in the List and Key outside", retold("\x00\x05\x00\x00\x00\x00\x00\xff\xff\x05" + long[:10]), impl.ErForm},
		{"five in the List and one outside", retold("\x00\x05\x00\x00\x00\x00\x00\x00\x00\x05" + long[:8] + "\xff\xff"), impl.ErForm},
		{"a List too short and outside", retold("\x00\x05\x00\x00\x00\x00\x00\x00\x00\x02\xff\xff"), impl.ErForm},
		{"Left and one byte more", retold("\x00\x01" + long[:9] + "\x00\x03\x00\x00\x00"), impl.ErForm},
		{"Hops and one byte fewer", retold("\x00\x01" + long[:11] + "\xff"), impl.ErForm},
		{"Left and Hops", "\x0e\x01" + long[:9] + "\x00\x03\x03\xe9", impl.ErSpace},
	} {
		wantCode(t, c.name, s, c.b, c.want)
	}
}

func TestReadMsgOfMaxFrame(t *testing.T) {
	for _, s := range fewSpaces() {
		for kind, want := range map[byte]int{1: impl.ErForm, 5: impl.ErForm, 8: impl.ErForm, 9: impl.ErKind} {
			b := string([]byte{0, kind}) + strings.Repeat("\x00", 300)
			for _, long := range []int{60, 63, 64} {
				wantCode(t, "not too long", s, retold(b[:long]), want)
			}
			for _, long := range []int{65, 66, 255, 256} {
				wantCode(t, "too long", s, retold(b[:long]), impl.ErLong)
			}
		}
		// The first byte says as much as it can.
		all := "\xff" + strings.Repeat("\x01", 100000)
		wantCode(t, "one fewer", s, all[:255], impl.ErShort)
		for _, long := range []int{256, 257, 1000, 1001, 100000} {
			wantCode(t, "all and more", s, all[:long], impl.ErLong)
		}
	}
}

// Numbers just inside and just outside, of each space, at each place.
func TestReadMsgAtTheEdges(t *testing.T) {
	for _, s := range spacesUpTo(12) {
		size, digits := powerOf2(s.Bits), s.Bits/s.Digit
		for kind := 1; kind <= 8; kind++ {
			for _, l := range [][]int{{size - 1, digits, 1000}, {size, 0, 0}, {0, digits + 1, 0}, {0, 0, 1001}} {
				m := withFields(kind, []int{l[0], 0, l[1], l[2]}, nil)
				checkRead(t, s, modelBytes(m))
				m = withFields(kind, []int{0, l[0], l[1], l[2]}, []int{0, l[0]})
				checkRead(t, s, modelBytes(m))
				checkRead(t, s, modelBytes(impl.Msg{Kind: kind, To: l[0]}))
				checkRead(t, s, modelBytes(impl.Msg{Kind: kind, From: l[0]}))
			}
		}
		wantCode(t, "To", s, modelBytes(impl.Msg{Kind: 4, To: size}), impl.ErSpace)
		wantCode(t, "Left", s, modelBytes(impl.Msg{Kind: 1, Left: digits + 1}), impl.ErSpace)
		wantCode(t, "Hops", s, modelBytes(impl.Msg{Kind: 7, Hops: 1001}), impl.ErSpace)
	}
}

// Each good frame cut, drawn out and with each byte changed, as it is and with
// the first byte set right.
func TestReadMsgOfChangedFrames(t *testing.T) {
	for _, s := range fewSpaces() {
		for _, m := range oneOfEach(s) {
			b := modelBytes(m)
			for cut := 0; cut < len(b); cut++ {
				checkRead(t, s, b[:cut])
				if cut > 0 {
					checkRead(t, s, retold(b[:cut]))
				}
			}
			for more := 1; more <= 60; more++ {
				checkRead(t, s, b+strings.Repeat("\x00", more))
				checkRead(t, s, retold(b+strings.Repeat("\x00", more)))
			}
			for at := range len(b) {
				for x := range 256 {
					checkRead(t, s, b[:at]+string([]byte{byte(x)})+b[at+1:])
				}
			}
		}
	}
}

// Two bytes changed at once.
func TestReadMsgOfTwoChanges(t *testing.T) {
	s := impl.Space{Bits: 9, Digit: 3}
	some := []byte{0, 1, 2, 3, 4, 5, 6, 8, 9, 10, 14, 17, 63, 64, 255}
	for _, m := range oneOfEach(s) {
		b := []byte(modelBytes(m))
		for i := range b {
			for j := range i {
				for _, x := range some {
					for _, y := range some {
						c := append([]byte(nil), b...)
						c[i], c[j] = x, y
						checkRead(t, s, string(c))
					}
				}
			}
		}
	}
}

// All texts of at most two bytes, and all of three with a first byte near.
func TestReadMsgOfShortTexts(t *testing.T) {
	s := impl.Space{Bits: 2, Digit: 1}
	checkRead(t, s, "")
	for x := range 256 {
		checkRead(t, s, string([]byte{byte(x)}))
		for y := range 256 {
			checkRead(t, s, string([]byte{byte(x), byte(y)}))
			for z := range 5 {
				checkRead(t, s, string([]byte{byte(z), byte(x), byte(y)}))
			}
		}
	}
}

func TestReadMsgOfStrayTexts(t *testing.T) {
	spaces := spacesUpTo(12)
	for seed := range 60000 {
		s := spaces[seed%len(spaces)]
		b := strayText(seed, seed%23, 1+seed%17)
		checkRead(t, s, b)
		if len(b) > 1 {
			checkRead(t, s, retold(b))
		}
	}
}
