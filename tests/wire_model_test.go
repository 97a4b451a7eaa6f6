package tests

import (
	"math"
	"strconv"

	"loop.example/g00749/impl"
)

// What chapter 5 says, worked out another way: what each kind has as a row of
// limits, the form of a frame as its length, each code asked for by itself.

// kindFields has, for each kind, the numbers of its fields.
var kindFields = map[int][]int{
	1: {1, 2, 3, 4}, 2: {1, 2, 4}, 3: {1, 4}, 4: {}, 5: {1, 5}, 6: {}, 7: {1, 4}, 8: {1},
}

// frameLengths has, for each kind, how many bytes its frame has in all, with
// nothing in a List.
var frameLengths = map[int]int{1: 15, 2: 13, 3: 11, 4: 7, 5: 10, 6: 7, 7: 11, 8: 9}

// fieldValues has Key, Imag, Left and Hops.
func fieldValues(m impl.Msg) []int {
	return []int{m.Key, m.Imag, m.Left, m.Hops}
}

// fieldLimits has the greatest Key, Imag, Left and Hops of a kind: 0 of what
// it does not have.
func fieldLimits(s impl.Space, kind int) []int {
	all := []int{powerOf2(s.Bits) - 1, powerOf2(s.Bits) - 1, s.Bits / s.Digit, 1000}
	for i := range all {
		if !contains(kindFields[kind], i+1) {
			all[i] = 0
		}
	}
	return all
}

func modelGoodSpace(s impl.Space) bool {
	return contains(digitWidths[s.Bits], s.Digit)
}

func modelGoodMsg(s impl.Space, m impl.Msg) bool {
	if !modelGoodSpace(s) || kindFields[m.Kind] == nil || m.Look < 0 || m.Look > 255 {
		return false
	}
	most := 0
	if m.Kind == 5 {
		most = 4
	}
	if len(m.List) > most {
		return false
	}
	for _, x := range append([]int{m.To, m.From}, m.List...) {
		if x < 0 || x >= powerOf2(s.Bits) {
			return false
		}
	}
	limits := fieldLimits(s, m.Kind)
	for i, x := range fieldValues(m) {
		if x < 0 || x > limits[i] {
			return false
		}
	}
	return true
}

func twoBytes(x int) string {
	return string([]byte{byte(x >> 8), byte(x & 255)})
}

func modelBytes(m impl.Msg) string {
	behind := string([]byte{byte(m.Kind), byte(m.Look)}) + twoBytes(m.To) + twoBytes(m.From)
	values := fieldValues(m)
	for _, field := range kindFields[m.Kind] {
		if field < 5 {
			behind += twoBytes(values[field-1])
			continue
		}
		behind += string([]byte{byte(len(m.List))})
		for _, x := range m.List {
			behind += twoBytes(x)
		}
	}
	return string([]byte{byte(len(behind))}) + behind
}

func isShort(b string) bool {
	return b == "" || len(b)-1 < int(b[0])
}

func isLong(b string) bool {
	return len(b) > 64 || b != "" && len(b)-1 > int(b[0])
}

func isOfNoKind(b string) bool {
	return len(b) < 3 || kindFields[int(b[1])] == nil
}

// isMisformed takes a text with a kind.
func isMisformed(b string) bool {
	long := frameLengths[int(b[1])]
	if b[1] != 5 {
		return len(b) != long
	}
	return len(b) < long || b[9] > 4 || len(b) != long+2*int(b[9])
}

// modelNumbers takes a text that has the form of its kind.
func modelNumbers(b string) impl.Msg {
	at := func(i int) int { return int(b[i])<<8 | int(b[i+1]) }
	m := impl.Msg{Kind: int(b[1]), Look: int(b[2]), To: at(3), From: at(5)}
	places := []*int{&m.Key, &m.Imag, &m.Left, &m.Hops}
	for i, field := range kindFields[m.Kind] {
		if field < 5 {
			*places[field-1] = at(7 + 2*i)
		}
	}
	if m.Kind == 5 {
		for i := 10; i < len(b); i += 2 {
			m.List = append(m.List, at(i))
		}
	}
	return m
}

// modelRead has the message and 0, or none and the code.
func modelRead(s impl.Space, b string) (impl.Msg, int) {
	switch {
	case isShort(b):
		return impl.Msg{}, 1
	case isLong(b):
		return impl.Msg{}, 2
	case isOfNoKind(b):
		return impl.Msg{}, 3
	case isMisformed(b):
		return impl.Msg{}, 5
	case !modelGoodMsg(s, modelNumbers(b)):
		return impl.Msg{}, 4
	}
	return modelNumbers(b), 0
}

// modelSplit goes byte by byte, and counts down what a frame still lacks.
func modelSplit(b string) (frames []string, rest string) {
	lacks := 0
	for i := 0; i < len(b); i++ {
		if rest += b[i : i+1]; len(rest) == 1 {
			lacks = int(b[i])
		} else {
			lacks--
		}
		if lacks == 0 {
			frames, rest = append(frames, rest), ""
		}
	}
	return frames, rest
}

func msgText(m impl.Msg) string {
	l := []int{m.Kind, m.Look, m.To, m.From, m.Key, m.Imag, m.Left, m.Hops}
	return "msg " + numbersText(l) + "list " + numbersText(m.List)
}

func sameText(a, b impl.Msg) bool {
	return msgText(a) == msgText(b)
}

func cloneMsg(m impl.Msg) impl.Msg {
	m.List = append([]int(nil), m.List...)
	return m
}

// fewSpaces has spaces of few and of many bits, with few and many digits.
func fewSpaces() []impl.Space {
	return []impl.Space{
		{Bits: 1, Digit: 1}, {Bits: 2, Digit: 1}, {Bits: 3, Digit: 3}, {Bits: 4, Digit: 2}, {Bits: 8, Digit: 1},
		{Bits: 9, Digit: 3}, {Bits: 10, Digit: 10}, {Bits: 12, Digit: 1}, {Bits: 12, Digit: 4}, {Bits: 12, Digit: 12},
	}
}

func endsOf(s impl.Space) []int {
	return []int{0, powerOf2(s.Bits) / 3, powerOf2(s.Bits) - 1}
}

// goodLists has lists that MgTell may have, of each length.
func goodLists(s impl.Space) [][]int {
	top := powerOf2(s.Bits) - 1
	return [][]int{nil, {0}, {top}, {0, top}, {top, top / 2, 0}, {0, 0, 0, 0}, {1, top, 0, top}, {top, top, top, top}}
}

// withFields has a message with all that its kind has, and only that.
func withFields(kind int, values []int, list []int) impl.Msg {
	m := impl.Msg{Kind: kind}
	places := []*int{&m.Key, &m.Imag, &m.Left, &m.Hops}
	for _, field := range kindFields[kind] {
		if field < 5 {
			*places[field-1] = values[field-1]
		} else {
			m.List = list
		}
	}
	return m
}

// goodMsgs has messages of each kind, with each number at both ends.
func goodMsgs(s impl.Space) []impl.Msg {
	var l []impl.Msg
	looks := []int{0, 1, 7, 128, 254, 255}
	ends := endsOf(s)
	for kind := 1; kind <= 8; kind++ {
		for i, hops := range []int{0, 1, 255, 256, 999, 1000} {
			for j, key := range ends {
				for _, left := range []int{0, 1, s.Bits / s.Digit} {
					lists := goodLists(s)
					m := withFields(kind, []int{key, ends[(i+j)%3], left, hops}, lists[(3*i+j+left)%len(lists)])
					m.Look, m.To, m.From = looks[(i+j+left)%len(looks)], ends[(i+left)%3], ends[(i+j+1)%3]
					l = append(l, m)
				}
			}
		}
	}
	for _, list := range goodLists(s) {
		l = append(l, impl.Msg{Kind: 5, Look: 200, To: ends[2], From: 0, Key: ends[1], List: list})
	}
	return l
}

// oneOfEach has one message of each kind with no number that is 0, as far as
// the space has others.
func oneOfEach(s impl.Space) []impl.Msg {
	top := powerOf2(s.Bits) - 1
	var l []impl.Msg
	for kind := 1; kind <= 8; kind++ {
		m := withFields(kind, []int{top, top/2 + 1, 1, 300}, []int{top, 1})
		m.Look, m.To, m.From = 9, top, 1
		l = append(l, m)
	}
	return l
}

// wrongMsgs has messages that miss being good by one thing each.
func wrongMsgs(s impl.Space) []impl.Msg {
	var wrong []impl.Msg
	for _, good := range oneOfEach(s) {
		add := func(change func(m *impl.Msg)) {
			m := cloneMsg(good)
			change(&m)
			wrong = append(wrong, m)
		}
		for _, kind := range []int{0, -1, 9, 10, 256 + good.Kind, good.Kind - 256, -good.Kind, math.MaxInt, math.MinInt} {
			add(func(m *impl.Msg) { m.Kind = kind })
		}
		for _, look := range []int{-1, -256, 256, 257, 1 << 32, math.MaxInt, math.MinInt} {
			add(func(m *impl.Msg) { m.Look = look })
		}
		for _, x := range wrongNumbers(s) {
			add(func(m *impl.Msg) { m.To = x })
			add(func(m *impl.Msg) { m.From = x })
			add(func(m *impl.Msg) { m.Key = x })
			add(func(m *impl.Msg) { m.Imag = x })
			add(func(m *impl.Msg) { m.List = []int{x} })
			add(func(m *impl.Msg) { m.List = []int{0, 1, x} })
			add(func(m *impl.Msg) { m.List = []int{0, 1, 1, x} })
		}
		for _, left := range []int{-1, -2, s.Bits/s.Digit + 1, s.Bits + 1, 256, 1 << 32, math.MaxInt, math.MinInt} {
			add(func(m *impl.Msg) { m.Left = left })
		}
		for _, hops := range wrongTtls() {
			add(func(m *impl.Msg) { m.Hops = hops })
		}
		for _, long := range []int{5, 6, 100, 256, 257, 100000} {
			add(func(m *impl.Msg) { m.List = make([]int, long) })
		}
		wrong = append(wrong, withOthers(good)...)
	}
	return wrong
}

// withOthers has a message with a field each that is not its kind's.
func withOthers(good impl.Msg) []impl.Msg {
	key, imag, left, hops, list := good, good, good, good, good
	key.Key, imag.Imag, left.Left, hops.Hops, list.List = 1, 1, 1, 1, []int{0}
	others := []impl.Msg{key, imag, left, hops, list}
	var l []impl.Msg
	for i, m := range others {
		if !contains(kindFields[good.Kind], i+1) {
			l = append(l, m)
		}
	}
	return l
}

// retold has a text with its first byte saying how many come behind.
func retold(b string) string {
	return string([]byte{byte(len(b) - 1)}) + b[1:]
}

func codeText(code int, ok bool) string {
	return "code " + strconv.Itoa(code) + " " + answerText(ok)
}
