package tests

import (
	"math"
	"strings"
	"testing"
	"unsafe"

	"loop.example/g00749/impl"
)

// Promise 18 for chapter 5: the zero answer for all that is wrong, nothing
// written into a List that is handed in, and answers that are new memory.

func wantZeroMsg(t *testing.T, s impl.Space, m impl.Msg) {
	t.Helper()
	if impl.GoodMsg(s, m) {
		t.Fatal("wrong one taken", s, msgText(m))
	}
	if b, ok := impl.MsgBytes(s, m); b != "" || ok {
		t.Fatalf("%v %s: got %q %v", s, msgText(m), b, ok)
	}
}

func TestMessagesOfWrongSpaces(t *testing.T) {
	for _, s := range wrongSpaces() {
		for _, m := range append(oneOfEach(impl.Space{Bits: 1, Digit: 1}), impl.Msg{Kind: 4}, impl.Msg{}) {
			wantZeroMsg(t, s, m)
		}
		for _, b := range []string{
			"", "\x00", "\x05", "\x00\x00", "\x02\x09\x00", "\x02\x04\x00", "\x06\x04\x00\x00\x00\x00\x00",
			"\x06\x04\x00\xff\xff\xff\xff", strings.Repeat("\x40", 65), "\x0e\x01\x00\x00\x00\x00\x00\x00\x00\x00\x00\x00\x00\x00\x00",
		} {
			// Of no good space there is nothing to read: not even a code.
			if m, code, ok := impl.ReadMsg(s, b); !sameText(m, impl.Msg{}) || code != 0 || ok {
				t.Fatalf("%v %q: got %v %d %v", s, b, m, code, ok)
			}
		}
	}
}

func TestWrongMessages(t *testing.T) {
	for _, s := range spacesUpTo(12) {
		for _, m := range wrongMsgs(s) {
			if modelGoodMsg(s, m) {
				t.Fatal("the model takes it", s, msgText(m))
			}
			wantZeroMsg(t, s, m)
		}
	}
}

// Messages of which each number is one of a few, good and wrong ones.
func TestMessagesOfAnyNumbers(t *testing.T) {
	s := impl.Space{Bits: 3, Digit: 1}
	for kind := -1; kind <= 10; kind++ {
		for _, l := range listsOf([]int{0, 3, 8, -1}, 5) {
			for _, list := range [][]int{nil, {7}, {1, 8}, {0, 0, 0, 0, 0}} {
				for _, hops := range []int{0, 1000, 1001} {
					m := impl.Msg{Kind: kind, To: l[0], From: l[1], Key: l[2], Imag: l[3], Left: l[4], Hops: hops, List: list}
					if !modelGoodMsg(s, m) {
						wantZeroMsg(t, s, m)
					} else {
						checkPromise5(t, s, m)
					}
				}
			}
		}
	}
}

func TestFieldsOfNoKind(t *testing.T) {
	for _, kind := range []int{0, -1, -8, 9, 10, 255, 256, 257, 1 << 32, 1<<32 + 1, math.MaxInt, math.MinInt} {
		if l, ok := impl.FieldsOf(kind); len(l) != 0 || ok {
			t.Error(kind, "got", l, ok)
		}
	}
}

func TestSplitFramesOfTooMuch(t *testing.T) {
	for _, first := range []string{"\x00", "\x01", "\x02", "\xff"} {
		for _, long := range []int{1001, 1002, 2000, 1 << 20} {
			if frames, rest, ok := impl.SplitFrames(strings.Repeat(first, long)); len(frames) != 0 || rest != "" || ok {
				t.Errorf("%q %d times: got %d frames, %d bytes, %v", first, long, len(frames), len(rest), ok)
			}
		}
		checkSplit(t, strings.Repeat(first, 1000))
	}
}

func TestSameMsgOfAnyMessages(t *testing.T) {
	s := impl.Space{Bits: 4, Digit: 2}
	msgs := append(wrongMsgs(s)[:60], oneOfEach(s)...)
	msgs = append(msgs, impl.Msg{}, impl.Msg{Kind: math.MinInt, Look: math.MaxInt}, impl.Msg{List: []int{math.MinInt, math.MaxInt}})
	for _, a := range msgs {
		for _, b := range msgs {
			if impl.SameMsg(a, b) != sameText(a, b) {
				t.Fatal(msgText(a), msgText(b))
			}
		}
	}
}

// msgInMemory has a message whose List lies in the midst of more memory.
func msgInMemory(m impl.Msg, behind int) (whole []int, laid impl.Msg) {
	whole = make([]int, len(m.List)+8)
	for i := range whole {
		whole[i] = behind
	}
	copy(whole[4:], m.List)
	m.List = whole[4 : 4+len(m.List)]
	return whole, m
}

// allMsgAnswers asks all functions that take a message, tells what they
// answer, and writes over what is read.
func allMsgAnswers(s impl.Space, m impl.Msg) string {
	text := answerText(impl.GoodMsg(s, m))
	b, ok := impl.MsgBytes(s, m)
	text += b + answerText(ok)
	read, code, ok := impl.ReadMsg(s, b)
	text += msgText(read) + codeText(code, ok)
	text += answerText(impl.SameMsg(m, read)) + answerText(impl.SameMsg(read, m)) + answerText(impl.SameMsg(m, impl.Msg{Kind: 5}))
	text += answerText(impl.SameMsg(m, cloneMsg(m)))
	l, ok := impl.FieldsOf(m.Kind)
	text += numbersText(l) + answerText(ok)
	frames, rest, ok := impl.SplitFrames(b + b)
	text += strings.Join(frames, ";") + rest + answerText(ok)
	spoil(read.List)
	spoil(l)
	return text
}

func checkMsgStays(t *testing.T, s impl.Space, m impl.Msg) {
	t.Helper()
	want := allMsgAnswers(s, cloneMsg(m))
	for _, behind := range []int{0, 1, -1, math.MaxInt} {
		whole, laid := msgInMemory(m, behind)
		was := append([]int(nil), whole...)
		got := allMsgAnswers(s, laid)
		if !sameList(whole, was) {
			t.Fatal("List changed, or shared with an answer", s, msgText(m), was, whole)
		}
		if got != want {
			t.Fatalf("hangs on what lies behind the List: %v %s: %q, %q", s, msgText(m), got, want)
		}
	}
}

func TestMessagesStayAsTheyWere(t *testing.T) {
	for _, s := range spacesUpTo(12) {
		for _, list := range goodLists(s) {
			checkMsgStays(t, s, impl.Msg{Kind: 5, Look: 3, To: 1, From: 0, Key: 1, List: list})
			checkMsgStays(t, s, impl.Msg{Kind: 4, List: list})
		}
		for _, m := range append(oneOfEach(s), wrongMsgs(s)...) {
			if len(m.List) < 20 {
				checkMsgStays(t, s, m)
			}
		}
	}
	for _, s := range wrongSpaces() {
		checkMsgStays(t, s, impl.Msg{Kind: 5, List: []int{0, 1}})
	}
}

// What is asked beside it, what is behind its length, and a message that was
// read ahead are none of a message's.
func TestMessagesAreNewMemory(t *testing.T) {
	for _, s := range fewSpaces() {
		for _, list := range goodLists(s) {
			given := cloneMsg(impl.Msg{Kind: 5, Key: 1, List: list})
			b, _ := impl.MsgBytes(s, given)
			one, _, _ := impl.ReadMsg(s, b)
			other, _, _ := impl.ReadMsg(s, b)
			was := msgText(one)
			spoil(given.List)
			spoil(other.List)
			if msgText(one) != was || !sameList(one.List, list) {
				t.Fatal("an answer shares memory", s, list, one)
			}
			if again, _, ok := impl.ReadMsg(s, b); msgText(again) != was || !ok {
				t.Fatal("an answer is kept", s, list, again)
			}
		}
	}
	for kind, want := range kindFields {
		one, _ := impl.FieldsOf(kind)
		other, _ := impl.FieldsOf(kind)
		spoil(one)
		if again, ok := impl.FieldsOf(kind); !sameList(other, want) || !sameList(again, want) || !ok {
			t.Fatal("an answer is kept", kind, other, again)
		}
	}
}

// liesIn tells whether a piece is in the memory of a text.
func liesIn(piece, text string) bool {
	if len(piece) == 0 || len(text) == 0 {
		return false
	}
	from := uintptr(unsafe.Pointer(unsafe.StringData(text)))
	at := uintptr(unsafe.Pointer(unsafe.StringData(piece)))
	return at >= from && at < from+uintptr(len(text))
}

func TestFramesAreNewMemory(t *testing.T) {
	b := strings.Repeat("\x02ab\x00\x05cdefg", 3) + "\x04hi"
	frames, rest, ok := impl.SplitFrames(b)
	if len(frames) != 9 || rest != "\x04hi" || !ok {
		t.Fatal(frames, rest, ok)
	}
	for _, piece := range append(frames[:9:9], rest) {
		if liesIn(piece, b) {
			t.Errorf("%q shares memory with the text", piece)
		}
	}
	other, _, _ := impl.SplitFrames(b)
	for i := range frames {
		frames[i] = "spoilt"
	}
	if strings.Join(other, "")+rest != b {
		t.Error("two answers share memory", other)
	}
	if again, _, _ := impl.SplitFrames(b); strings.Join(again, "")+rest != b {
		t.Error("an answer is kept", again)
	}
}

func TestNothingIsKeptOfMessages(t *testing.T) {
	s := impl.Space{Bits: 4, Digit: 2}
	m := impl.Msg{Kind: 5, Look: 1, To: 2, From: 3, Key: 4, List: []int{5, 6}}
	want := allMsgAnswers(s, m)
	for _, other := range append(wrongMsgs(s)[:100], oneOfEach(impl.Space{Bits: 12, Digit: 1})...) {
		allMsgAnswers(s, other)
		allMsgAnswers(impl.Space{Bits: 12, Digit: 1}, other)
		impl.ReadMsg(s, "\x02\x09\x00")
		impl.SplitFrames("\x05ab")
		if got := allMsgAnswers(s, m); got != want {
			t.Fatalf("%q, %q", got, want)
		}
	}
}
