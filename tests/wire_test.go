package tests

import (
	"strings"
	"testing"

	"loop.example/g00749/impl"
)

func TestWireConstants(t *testing.T) {
	kinds := []int{impl.MgFind, impl.MgFound, impl.MgSpent, impl.MgAsk, impl.MgTell, impl.MgNotify, impl.MgPut, impl.MgGet}
	if !sameList(kinds, []int{1, 2, 3, 4, 5, 6, 7, 8}) {
		t.Error(kinds)
	}
	codes := []int{impl.ErShort, impl.ErLong, impl.ErKind, impl.ErSpace, impl.ErForm}
	if !sameList(codes, []int{1, 2, 3, 4, 5}) || impl.MaxFrame != 64 {
		t.Error(codes, impl.MaxFrame)
	}
}

func TestFieldsOf(t *testing.T) {
	for kind, want := range kindFields {
		if l, ok := impl.FieldsOf(kind); !sameList(l, want) || !ok {
			t.Error(kind, "got", l, ok, "want", want)
		}
	}
}

// Frames written out by hand: of each kind, and of numbers at both ends.
var writtenFrames = []struct {
	name string
	s    impl.Space
	m    impl.Msg
	b    string
}{
	{"find", impl.Space{Bits: 4, Digit: 1}, impl.Msg{Kind: 1, Look: 7, To: 4, From: 12, Key: 9, Imag: 6, Left: 2, Hops: 300},
		"\x0e\x01\x07\x00\x04\x00\x0c\x00\x09\x00\x06\x00\x02\x01\x2c"},
	{"find, all 0", impl.Space{Bits: 1, Digit: 1}, impl.Msg{Kind: 1},
		"\x0e\x01\x00\x00\x00\x00\x00\x00\x00\x00\x00\x00\x00\x00\x00"},
	{"find, all the greatest", impl.Space{Bits: 12, Digit: 1},
		impl.Msg{Kind: 1, Look: 255, To: 4095, From: 4095, Key: 4095, Imag: 4095, Left: 12, Hops: 1000},
		"\x0e\x01\xff\x0f\xff\x0f\xff\x0f\xff\x0f\xff\x00\x0c\x03\xe8"},
	{"find, one digit", impl.Space{Bits: 12, Digit: 12}, impl.Msg{Kind: 1, To: 256, From: 255, Key: 257, Imag: 511, Left: 1, Hops: 256},
		"\x0e\x01\x00\x01\x00\x00\xff\x01\x01\x01\xff\x00\x01\x01\x00"},
	{"found", impl.Space{Bits: 4, Digit: 1}, impl.Msg{Kind: 2, Look: 1, To: 12, From: 4, Key: 9, Imag: 12, Hops: 255},
		"\x0c\x02\x01\x00\x0c\x00\x04\x00\x09\x00\x0c\x00\xff"},
	{"spent", impl.Space{Bits: 4, Digit: 2}, impl.Msg{Kind: 3, Look: 2, To: 1, From: 2, Key: 3, Hops: 1000},
		"\x0a\x03\x02\x00\x01\x00\x02\x00\x03\x03\xe8"},
	{"ask", impl.Space{Bits: 12, Digit: 4}, impl.Msg{Kind: 4, Look: 3, To: 0xabc, From: 0x123}, "\x06\x04\x03\x0a\xbc\x01\x23"},
	{"tell, nothing", impl.Space{Bits: 4, Digit: 1}, impl.Msg{Kind: 5, Look: 4, To: 5, From: 6, Key: 7},
		"\x09\x05\x04\x00\x05\x00\x06\x00\x07\x00"},
	{"tell, one", impl.Space{Bits: 4, Digit: 1}, impl.Msg{Kind: 5, Look: 4, To: 5, From: 6, Key: 7, List: []int{0}},
		"\x0b\x05\x04\x00\x05\x00\x06\x00\x07\x01\x00\x00"},
	{"tell, four", impl.Space{Bits: 12, Digit: 1}, impl.Msg{Kind: 5, Look: 4, To: 5, From: 6, Key: 7, List: []int{4095, 0, 256, 4095}},
		"\x11\x05\x04\x00\x05\x00\x06\x00\x07\x04\x0f\xff\x00\x00\x01\x00\x0f\xff"},
	{"notify", impl.Space{Bits: 1, Digit: 1}, impl.Msg{Kind: 6, Look: 255, To: 1, From: 0}, "\x06\x06\xff\x00\x01\x00\x00"},
	{"put", impl.Space{Bits: 8, Digit: 8}, impl.Msg{Kind: 7, Look: 128, To: 255, From: 254, Key: 253, Hops: 257},
		"\x0a\x07\x80\x00\xff\x00\xfe\x00\xfd\x01\x01"},
	{"get", impl.Space{Bits: 9, Digit: 3}, impl.Msg{Kind: 8, Look: 10, To: 511, From: 0, Key: 256}, "\x08\x08\x0a\x01\xff\x00\x00\x01\x00"},
}

func TestWrittenFrames(t *testing.T) {
	for _, c := range writtenFrames {
		if !impl.GoodMsg(c.s, c.m) {
			t.Error(c.name, "refused")
		}
		if b, ok := impl.MsgBytes(c.s, c.m); b != c.b || !ok {
			t.Errorf("%s: got %q %v, want %q", c.name, b, ok, c.b)
		}
		if m, code, ok := impl.ReadMsg(c.s, c.b); !sameText(m, c.m) || code != 0 || !ok {
			t.Error(c.name, "got", m, code, ok, "want", c.m)
		}
	}
}

func checkRead(t *testing.T, s impl.Space, b string) {
	t.Helper()
	want, wantCode := modelRead(s, b)
	m, code, ok := impl.ReadMsg(s, b)
	if !sameText(m, want) || code != wantCode || ok != (wantCode == 0) {
		t.Fatalf("%v %q: got %v %d %v, want %v %d", s, b, m, code, ok, want, wantCode)
	}
	if !ok {
		return
	}
	if again, ok := impl.MsgBytes(s, m); again != b || !ok {
		t.Fatalf("%v: %q is read and becomes %q %v", s, b, again, ok)
	}
}

// Promise 5, and that a message has no other bytes than these.
func checkPromise5(t *testing.T, s impl.Space, m impl.Msg) {
	t.Helper()
	b, ok := impl.MsgBytes(s, m)
	if b != modelBytes(m) || !ok || !impl.GoodMsg(s, m) {
		t.Fatalf("%v %v: got %q %v", s, m, b, ok)
	}
	if got, code, ok := impl.ReadMsg(s, b); !sameText(got, m) || !impl.SameMsg(got, m) || code != 0 || !ok {
		t.Fatal(s, m, "is read back as", got, code, ok)
	}
	if frames, rest, ok := impl.SplitFrames(b); len(frames) != 1 || frames[0] != b || rest != "" || !ok {
		t.Fatalf("%q is split into %q and %q %v", b, frames, rest, ok)
	}
}

func TestPromise5(t *testing.T) {
	for _, s := range spacesUpTo(12) {
		for _, m := range append(goodMsgs(s), oneOfEach(s)...) {
			checkPromise5(t, s, m)
		}
	}
}

// All numbers that each field may have, one field after the other.
func TestPromise5EachNumber(t *testing.T) {
	for _, s := range fewSpaces() {
		for _, good := range oneOfEach(s) {
			for look := 0; look <= 255; look++ {
				m := good
				m.Look = look
				checkPromise5(t, s, m)
			}
			for x := 0; x < powerOf2(s.Bits); x++ {
				m := good
				m.To, m.From = x, powerOf2(s.Bits)-1-x
				if contains(kindFields[m.Kind], 1) {
					m.Key = x
				}
				if contains(kindFields[m.Kind], 2) {
					m.Imag = powerOf2(s.Bits) - 1 - x
				}
				if m.Kind == 5 {
					m.List = []int{x, 0, x}
				}
				checkPromise5(t, s, m)
			}
			for hops := 0; hops <= 1000 && contains(kindFields[good.Kind], 4); hops++ {
				m := good
				m.Hops = hops
				if m.Kind == 1 {
					m.Left = hops % (s.Bits/s.Digit + 1)
				}
				checkPromise5(t, s, m)
			}
		}
	}
}

// All messages of a space with two numbers, but for Look and Hops.
func TestPromise5SmallSpace(t *testing.T) {
	s := impl.Space{Bits: 1, Digit: 1}
	for kind := 1; kind <= 8; kind++ {
		for _, l := range listsOf([]int{0, 1}, 5) {
			for long := 0; long <= 4; long++ {
				for _, list := range listsOf([]int{0, 1}, long) {
					m := withFields(kind, []int{l[0], l[1], l[2], 1000 * l[0]}, list)
					m.Look, m.To, m.From = 255*l[1], l[3], l[4]
					checkPromise5(t, s, m)
				}
			}
		}
	}
}

// No two messages of a space have the same bytes.
func TestBytesTellMessagesApart(t *testing.T) {
	s := impl.Space{Bits: 9, Digit: 3}
	seen := map[string]string{}
	for _, m := range append(goodMsgs(s), oneOfEach(s)...) {
		b, _ := impl.MsgBytes(s, m)
		if was, ok := seen[b]; ok && was != msgText(m) {
			t.Fatal("the same bytes", was, m)
		}
		seen[b] = msgText(m)
	}
}

func TestGoodMsg(t *testing.T) {
	s := impl.Space{Bits: 4, Digit: 2}
	for _, c := range []struct {
		name string
		m    impl.Msg
		want bool
	}{
		{"nothing at all", impl.Msg{}, false},
		{"nothing but a kind", impl.Msg{Kind: 1}, true},
		{"no kind below", impl.Msg{Kind: -1}, false},
		{"no kind above", impl.Msg{Kind: 9}, false},
		{"the last kind", impl.Msg{Kind: 8}, true},
		{"a Look of 255", impl.Msg{Kind: 4, Look: 255}, true},
		{"a Look of 256", impl.Msg{Kind: 4, Look: 256}, false},
		{"a Look below 0", impl.Msg{Kind: 4, Look: -1}, false},
		{"the greatest To and From", impl.Msg{Kind: 4, To: 15, From: 15}, true},
		{"To outside", impl.Msg{Kind: 4, To: 16}, false},
		{"From outside", impl.Msg{Kind: 4, From: 16}, false},
		{"To below 0", impl.Msg{Kind: 4, To: -1}, false},
		{"From below 0", impl.Msg{Kind: 4, From: -1}, false},
		{"Left as many as there are", impl.Msg{Kind: 1, Left: 2}, true},
		{"one Left more", impl.Msg{Kind: 1, Left: 3}, false},
		{"Left below 0", impl.Msg{Kind: 1, Left: -1}, false},
		{"a thousand Hops", impl.Msg{Kind: 2, Hops: 1000}, true},
		{"one more", impl.Msg{Kind: 2, Hops: 1001}, false},
		{"Hops below 0", impl.Msg{Kind: 2, Hops: -1}, false},
		{"an owner", impl.Msg{Kind: 2, Imag: 15}, true},
		{"an owner outside", impl.Msg{Kind: 2, Imag: 16}, false},
		{"found has no Left", impl.Msg{Kind: 2, Left: 1}, false},
		{"spent has no Imag", impl.Msg{Kind: 3, Imag: 1}, false},
		{"ask has no Key", impl.Msg{Kind: 4, Key: 1}, false},
		{"tell has a List", impl.Msg{Kind: 5, List: []int{15, 0, 15, 0}}, true},
		{"tell has an empty List", impl.Msg{Kind: 5, List: []int{}}, true},
		{"five are too many", impl.Msg{Kind: 5, List: []int{1, 2, 3, 4, 5}}, false},
		{"one in the List is outside", impl.Msg{Kind: 5, List: []int{1, 2, 3, 16}}, false},
		{"one in the List is below 0", impl.Msg{Kind: 5, List: []int{-1}}, false},
		{"tell has no Hops", impl.Msg{Kind: 5, Hops: 1}, false},
		{"notify has no List", impl.Msg{Kind: 6, List: []int{0}}, false},
		{"an empty List is none", impl.Msg{Kind: 6, List: []int{}}, true},
		{"put has Hops", impl.Msg{Kind: 7, Key: 15, Hops: 1000}, true},
		{"put has no Left", impl.Msg{Kind: 7, Left: 1}, false},
		{"get has a Key", impl.Msg{Kind: 8, Key: 15}, true},
		{"get has no Hops", impl.Msg{Kind: 8, Hops: 1}, false},
	} {
		if got := impl.GoodMsg(s, c.m); got != c.want || got != modelGoodMsg(s, c.m) {
			t.Error(c.name, c.m, "got", got)
		}
	}
}

// A message that is good in one space may be none in another one.
func TestGoodMsgBySpace(t *testing.T) {
	for _, from := range fewSpaces() {
		for _, m := range append(goodMsgs(from), oneOfEach(from)...) {
			for _, s := range spacesUpTo(12) {
				want := modelGoodMsg(s, m)
				if impl.GoodMsg(s, m) != want {
					t.Fatal(s, m, "want", want)
				}
				if b, ok := impl.MsgBytes(s, m); ok != want || !want && b != "" {
					t.Fatalf("%v %v: got %q %v", s, m, b, ok)
				}
				checkRead(t, s, modelBytes(m))
			}
		}
	}
}

func TestSameMsg(t *testing.T) {
	a := impl.Msg{Kind: 1, Look: 2, To: 3, From: 4, Key: 5, Imag: 6, Left: 7, Hops: 8, List: []int{9, 10}}
	changes := []func(m *impl.Msg){
		func(m *impl.Msg) { m.Kind++ }, func(m *impl.Msg) { m.Look++ }, func(m *impl.Msg) { m.To++ },
		func(m *impl.Msg) { m.From++ }, func(m *impl.Msg) { m.Key++ }, func(m *impl.Msg) { m.Imag++ },
		func(m *impl.Msg) { m.Left++ }, func(m *impl.Msg) { m.Hops++ }, func(m *impl.Msg) { m.List[0]++ },
		func(m *impl.Msg) { m.List[1]++ }, func(m *impl.Msg) { m.List = m.List[:1] }, func(m *impl.Msg) { m.List = nil },
		func(m *impl.Msg) { m.List = append(m.List, 0) }, func(m *impl.Msg) { m.List = []int{10, 9} },
		func(m *impl.Msg) { m.Kind = -1 }, func(m *impl.Msg) { m.Key += 1 << 32 }, func(m *impl.Msg) { m.Look += 256 },
		func(m *impl.Msg) { m.To, m.From = m.From, m.To },
	}
	if !impl.SameMsg(a, cloneMsg(a)) || !impl.SameMsg(a, a) {
		t.Error("not the same as itself")
	}
	for i, change := range changes {
		b := cloneMsg(a)
		change(&b)
		if impl.SameMsg(a, b) || impl.SameMsg(b, a) {
			t.Error("change", i, "is not seen", b)
		}
		if !impl.SameMsg(b, cloneMsg(b)) {
			t.Error("not the same", b)
		}
	}
}

func TestSameMsgOfLists(t *testing.T) {
	none, empty := impl.Msg{Kind: 5}, impl.Msg{Kind: 5, List: []int{}}
	cut := impl.Msg{Kind: 5, List: []int{1, 2}[:0]}
	for _, a := range []impl.Msg{none, empty, cut} {
		for _, b := range []impl.Msg{none, empty, cut} {
			if !impl.SameMsg(a, b) {
				t.Error("empty lists are the same", a, b)
			}
		}
	}
	long := impl.Msg{List: make([]int, 5000)}
	other := cloneMsg(long)
	if !impl.SameMsg(long, other) {
		t.Error("long lists that are the same")
	}
	other.List[4999] = 1
	if impl.SameMsg(long, other) {
		t.Error("long lists that are not")
	}
	if !impl.SameMsg(impl.Msg{}, impl.Msg{}) || impl.SameMsg(impl.Msg{}, none) {
		t.Error("messages with nothing")
	}
}

func checkSplit(t *testing.T, b string) {
	t.Helper()
	want, wantRest := modelSplit(b)
	frames, rest, ok := impl.SplitFrames(b)
	if strings.Join(frames, "")+rest != b || len(frames) != len(want) || rest != wantRest || !ok {
		t.Fatalf("%q is split into %q and %q %v, want %q and %q", b, frames, rest, ok, want, wantRest)
	}
	for i := range want {
		if frames[i] != want[i] {
			t.Fatalf("%q: frame %d is %q, want %q", b, i, frames[i], want[i])
		}
	}
}

func TestSplitFrames(t *testing.T) {
	full := "\xff" + strings.Repeat("x", 255)
	for _, c := range []struct {
		name, b string
		frames  []string
		rest    string
	}{
		{"no byte", "", nil, ""},
		{"nothing behind the first byte", "\x00", []string{"\x00"}, ""},
		{"three times nothing", "\x00\x00\x00", []string{"\x00", "\x00", "\x00"}, ""},
		{"one whole", "\x02ab", []string{"\x02ab"}, ""},
		{"two whole", "\x02ab\x01c", []string{"\x02ab", "\x01c"}, ""},
		{"the last one lacks all", "\x02ab\x01", []string{"\x02ab"}, "\x01"},
		{"the last one lacks one", "\x02ab\x03cd", []string{"\x02ab"}, "\x03cd"},
		{"only one, that lacks", "\x02a", nil, "\x02a"},
		{"a byte that lacks all", "\xff", nil, "\xff"},
		{"what is behind it is no frame of its own", "\x05\x00\x00", nil, "\x05\x00\x00"},
		{"nothing between", "\x01a\x00\x01b", []string{"\x01a", "\x00", "\x01b"}, ""},
		{"the longest frame", full, []string{full}, ""},
		{"the longest and one more", full + "\x00", []string{full, "\x00"}, ""},
		{"the longest lacks one", full[:255], nil, full[:255]},
		{"more than a message may have", "\x40" + strings.Repeat("y", 64), []string{"\x40" + strings.Repeat("y", 64)}, ""},
	} {
		frames, rest, ok := impl.SplitFrames(c.b)
		if strings.Join(frames, "|") != strings.Join(c.frames, "|") || len(frames) != len(c.frames) || rest != c.rest || !ok {
			t.Errorf("%s: got %q and %q %v", c.name, frames, rest, ok)
		}
		checkSplit(t, c.b)
	}
}

func TestSplitFramesOfMany(t *testing.T) {
	for _, b := range []string{
		strings.Repeat("\x00", 1000), strings.Repeat("\x01", 1000), strings.Repeat("\x01", 999), strings.Repeat("\x02", 1000),
		strings.Repeat("\xff", 1000), strings.Repeat("\xff", 1000)[:768], strings.Repeat("\xfe", 1000), strings.Repeat("\x07\x00", 500),
	} {
		checkSplit(t, b)
		for _, long := range []int{1, 2, 255, 256, 257, len(b) - 1} {
			checkSplit(t, b[:long])
		}
	}
	for seed := 1; seed < 400; seed++ {
		checkSplit(t, strayText(seed, seed*7%1001, 1+seed%256))
	}
}

// Frames of messages, one behind the other, are split into these, and what is
// cut off from the last one is the rest.
func TestSplitFramesOfMessages(t *testing.T) {
	for _, s := range fewSpaces() {
		msgs := oneOfEach(s)
		all := ""
		for _, m := range msgs {
			b, _ := impl.MsgBytes(s, m)
			all += b
		}
		for cut := 0; cut <= len(all); cut++ {
			checkSplit(t, all[:cut])
		}
		frames, _, _ := impl.SplitFrames(all)
		for i, m := range msgs {
			if got, code, ok := impl.ReadMsg(s, frames[i]); !impl.SameMsg(got, m) || code != 0 || !ok {
				t.Fatal(s, "want", m, "got", got, code, ok)
			}
		}
	}
}
