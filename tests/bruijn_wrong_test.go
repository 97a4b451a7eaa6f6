package tests

import (
	"math"
	"testing"

	"loop.example/g00749/impl"
)

// Promise 18 for chapter 3: the zero answer for all that is wrong, nothing
// written into peers or lists that are handed in, and answers that are new
// memory.

func wantZeroPeers(t *testing.T, name string, p impl.Peers, ok bool) {
	t.Helper()
	if p.Space != (impl.Space{}) || len(p.List) != 0 || ok {
		t.Fatal(name, "got", p, ok)
	}
}

// Zero of all functions of peers, whatever else they are asked with.
func wantZeroOfPeers(t *testing.T, p impl.Peers) {
	t.Helper()
	if impl.GoodPeers(p) {
		t.Fatal("wrong ones taken", p)
	}
	if is, ok := impl.IsIdeal(p); is || ok {
		t.Fatal("IsIdeal", p, is, ok)
	}
	if l, ok := impl.MembersOf(p); len(l) != 0 || ok {
		t.Fatal("MembersOf", p, l, ok)
	}
	id := 0
	if len(p.List) > 0 {
		id = p.List[0].Id
	}
	q, ok := impl.SetPoint(p, id, id, nil)
	wantZeroPeers(t, "SetPoint", q, ok)
	q, ok = impl.SetPoint(p, id, id, []int{id})
	wantZeroPeers(t, "SetPoint", q, ok)
}

// Zero of all functions of a ring with a number.
func wantZeroOfRing(t *testing.T, s impl.Space, m []int, x int) {
	t.Helper()
	y, ok := impl.PointOf(s, m, x)
	wantZeroNumber(t, "PointOf", s, m, x, y, ok)
	y, ok = impl.CrowdOf(s, m)
	wantZeroNumber(t, "CrowdOf", s, m, x, y, ok)
	for _, backs := range []int{0, 1, 3} {
		p, ok := impl.IdealPeers(s, m, backs)
		wantZeroPeers(t, "IdealPeers", p, ok)
	}
}

func TestPointersOfWrongSpaces(t *testing.T) {
	for _, s := range wrongSpaces() {
		for _, m := range [][]int{nil, {}, {0}, {1}, {0, 1}, {0, 1, 2}, {-1}, {5, 4095}} {
			for _, x := range []int{0, 1, -1, 4095, math.MaxInt, math.MinInt} {
				wantZeroOfRing(t, s, m, x)
			}
		}
	}
}

func TestPointersOfWrongRings(t *testing.T) {
	for _, s := range spacesUpTo(12) {
		for _, m := range wrongRings(s) {
			for _, x := range []int{0, 1, powerOf2(s.Bits) - 1, -1, math.MaxInt} {
				wantZeroOfRing(t, s, m, x)
			}
		}
	}
}

func TestPointOfNumbersOutside(t *testing.T) {
	for _, s := range spacesUpTo(12) {
		for _, m := range ringsOf(s) {
			for _, x := range wrongNumbers(s) {
				y, ok := impl.PointOf(s, m, x)
				wantZeroNumber(t, "PointOf", s, m, x, y, ok)
			}
		}
	}
}

func TestIdealPeersOfWrongBacks(t *testing.T) {
	for _, s := range spacesUpTo(12) {
		for _, m := range append(ringsOf(s), wrongRings(s)[:8]...) {
			for _, backs := range []int{-1, -2, 4, 5, 16, 1 << 32, math.MaxInt, math.MinInt} {
				p, ok := impl.IdealPeers(s, m, backs)
				wantZeroPeers(t, "IdealPeers", p, ok)
			}
		}
	}
}

func TestPeersOfAnyKind(t *testing.T) {
	for _, p := range peersOfAnyKind() {
		wantZeroOfPeers(t, p)
	}
}

// Rings with few members, and those with the most.
func someFewRings(s impl.Space) [][]int {
	rings := ringsOf(s)
	few := [][]int{rings[0], rings[len(rings)/2], rings[len(rings)-1]}
	for _, m := range rings {
		if len(m) == 16 || len(m) == powerOf2(s.Bits) {
			few = append(few, m)
			break
		}
	}
	return few
}

func TestWrongPeers(t *testing.T) {
	for _, s := range spacesUpTo(12) {
		for _, m := range someFewRings(s) {
			for _, p := range wrongPeers(s, m) {
				wantZeroOfPeers(t, p)
			}
		}
	}
}

// Peers that would be good in a greater space, or with other digits.
func TestPeersOfAnotherSpace(t *testing.T) {
	p := modelIdeal(impl.Space{Bits: 6, Digit: 2}, []int{3, 17, 40}, 2)
	if !impl.GoodPeers(p) {
		t.Fatal("good ones refused", p)
	}
	for _, s := range append(wrongSpaces(), spacesUpTo(5)...) {
		p.Space = s
		wantZeroOfPeers(t, p)
	}
}

func TestSetPointOfWrongNumbers(t *testing.T) {
	for _, s := range spacesUpTo(12) {
		for _, m := range someFewRings(s) {
			p := modelIdeal(s, m, 1)
			id := m[len(m)/2]
			for _, x := range noneOf(s, m) {
				for _, c := range []struct {
					id, point int
					backs     []int
				}{
					{x, id, nil}, {id, x, nil}, {x, x, nil}, {id, id, []int{x}}, {id, id, []int{id, x}},
					{id, id, []int{id, id, x}}, {id, id, []int{x, id, id}}, {x, id, []int{id}}, {id, x, []int{id}},
				} {
					q, ok := impl.SetPoint(p, c.id, c.point, c.backs)
					wantZeroPeers(t, "SetPoint", q, ok)
				}
			}
		}
	}
}

func TestSetPointOfTooManyBacks(t *testing.T) {
	for _, s := range spacesUpTo(12) {
		for _, m := range someFewRings(s) {
			p := modelIdeal(s, m, 3)
			for _, many := range []int{4, 5, 16, 1000} {
				backs := make([]int, many)
				for i := range backs {
					backs[i] = m[i%len(m)]
				}
				q, ok := impl.SetPoint(p, m[0], m[0], backs)
				wantZeroPeers(t, "SetPoint", q, ok)
				backs[many-1] = -1
				q, ok = impl.SetPoint(p, m[0], m[0], backs)
				wantZeroPeers(t, "SetPoint", q, ok)
			}
		}
	}
}

// peersInMemory has peers in the midst of more memory: their list, and the
// Backs of each.
type peersInMemory struct {
	list  []impl.Peer
	backs [][]int
	peers impl.Peers
}

func layOut(p impl.Peers, behind int) peersInMemory {
	many := len(p.List)
	lay := peersInMemory{list: make([]impl.Peer, many+4)}
	copy(lay.list[2:], p.List)
	for i := range lay.list {
		peer := &lay.list[i]
		whole := make([]int, len(peer.Backs)+5)
		for k := range whole {
			whole[k] = behind
		}
		copy(whole[1:], peer.Backs)
		peer.Backs = whole[1 : 1+len(peer.Backs)]
		lay.backs = append(lay.backs, whole)
	}
	for i := many + 2; i < many+4; i++ {
		lay.list[i].Id, lay.list[i].Succ, lay.list[i].Point = behind+i, behind, behind
	}
	lay.peers = impl.Peers{Space: p.Space, List: lay.list[2 : 2+many]}
	return lay
}

// text tells all of it, what lies behind each length too.
func (lay peersInMemory) text() string {
	text := peersText(impl.Peers{Space: lay.peers.Space, List: lay.list})
	for i, whole := range lay.backs {
		text += "|" + numbersText(whole) + "=" + numbersText(lay.list[i].Backs)
	}
	return text
}

func spoilPeers(p impl.Peers) {
	list := p.List[:cap(p.List)]
	for i := range list {
		spoil(list[i].Backs)
		list[i] = impl.Peer{Id: -77, Succ: -77, Point: -77}
	}
}

// allPeersAnswers asks all functions of peers, tells what they answer, and
// writes over that.
func allPeersAnswers(p impl.Peers, id, point int, backs []int) string {
	text := ""
	tell := func(ok bool) {
		if ok {
			text += "yes "
		} else {
			text += "no "
		}
	}
	tell(impl.GoodPeers(p))
	is, ok := impl.IsIdeal(p)
	tell(is)
	tell(ok)
	l, ok := impl.MembersOf(p)
	text += numbersText(l)
	tell(ok)
	q, ok := impl.SetPoint(p, id, point, backs)
	text += peersText(q)
	tell(ok)
	spoil(l)
	spoilPeers(q)
	return text
}

// backsInMemory is a list of so many Ids in the midst of more memory.
func backsInMemory(m []int, many, behind int) (whole, backs []int) {
	whole = make([]int, many+4)
	for i := range whole {
		whole[i] = behind
	}
	for i := 0; i < many; i++ {
		whole[2+i] = m[i%len(m)]
	}
	return whole, whole[2 : 2+many]
}

func checkPeersStay(t *testing.T, p impl.Peers, id, point, many int) {
	t.Helper()
	first := ""
	for i, behind := range []int{point, -1, math.MaxInt - 100} {
		lay := layOut(p, behind)
		whole, backs := backsInMemory([]int{id, point}, many, behind)
		was, wasBacks := lay.text(), numbersText(whole)
		now := allPeersAnswers(lay.peers, id, point, backs)
		if lay.text() != was {
			t.Fatal("peers changed, or shared with an answer", p, id, point)
		}
		if numbersText(whole) != wasBacks {
			t.Fatal("Backs changed, or shared with an answer", p, id, point, whole)
		}
		if i == 0 {
			first = now
		} else if now != first {
			t.Fatal("hangs on what lies behind a list", p, id, point, first, now)
		}
	}
}

func TestPeersStayAsTheyWere(t *testing.T) {
	for _, s := range spacesUpTo(12) {
		for _, m := range someFewRings(s) {
			for _, p := range goodPeersOf(s, m) {
				for many := 0; many <= 4; many++ {
					checkPeersStay(t, p, m[0], m[len(m)-1], many)
					checkPeersStay(t, p, m[len(m)-1], m[0], many)
				}
				checkPeersStay(t, p, -1, m[0], 1)
				checkPeersStay(t, p, m[0], -1, 1)
			}
		}
		if s.Bits == 5 {
			for _, p := range wrongPeers(s, []int{2, 5, 11}) {
				checkPeersStay(t, p, 5, 11, 1)
			}
		}
	}
	for _, p := range peersOfAnyKind() {
		if len(p.List) < 20 {
			checkPeersStay(t, p, 0, 0, 1)
		}
	}
}

// Rings that are handed in stay as they were, and what is answered of them
// shares none of their memory.
func TestRingsOfPeersStayAsTheyWere(t *testing.T) {
	for _, s := range spacesUpTo(12) {
		for _, m := range append(ringsOf(s), wrongRings(s)...) {
			if len(m) > 20 {
				continue
			}
			whole, ring := ringInMemory(m)
			was := numbersText(whole)
			first := ringTexts(s, ring)
			if numbersText(whole) != was {
				t.Fatal("ring changed, or shared with an answer", s, m, whole)
			}
			for i := 4 + len(m); i < len(whole); i++ {
				whole[i] = 0
			}
			if again := ringTexts(s, ring); again != first {
				t.Fatal("hangs on what lies behind the ring", s, m, first, again)
			}
		}
	}
}

func ringTexts(s impl.Space, m []int) string {
	text := ""
	for backs := 0; backs <= 3; backs++ {
		p, _ := impl.IdealPeers(s, m, backs)
		text += peersText(p)
		spoilPeers(p)
	}
	x, _ := impl.PointOf(s, m, 1)
	n, _ := impl.CrowdOf(s, m)
	return text + numbersText([]int{x, n})
}

// Whatever is written into a list of an answer is not seen in another one.
func checkListsApart(t *testing.T, p impl.Peers) {
	t.Helper()
	for i := range p.List {
		was := make([]string, len(p.List))
		for k := range p.List {
			was[k] = numbersText(p.List[k].Backs)
		}
		own := append([]int(nil), p.List[i].Backs...)
		spoil(p.List[i].Backs)
		for k := range p.List {
			if k != i && numbersText(p.List[k].Backs) != was[k] {
				t.Fatal("two lists of one answer share memory", p, i, k)
			}
		}
		copy(p.List[i].Backs, own)
	}
}

func TestListsOfOneAnswer(t *testing.T) {
	for _, s := range spacesUpTo(12) {
		for _, m := range someFewRings(s) {
			for backs := 0; backs <= 3; backs++ {
				p, _ := impl.IdealPeers(s, m, backs)
				checkListsApart(t, p)
				// All peers with one list as Backs, which SetPoint is handed too.
				one := []int{m[0], m[len(m)-1], m[0]}[:backs]
				for i := range p.List {
					p.List[i].Backs = one
				}
				q, ok := impl.SetPoint(p, m[0], m[0], one)
				if !ok || !samePeers(q, modelSet(p, m[0], m[0], one)) {
					t.Fatal(p, q, ok)
				}
				checkListsApart(t, q)
				spoilPeers(q)
				if !sameList(one, []int{m[0], m[len(m)-1], m[0]}[:backs]) {
					t.Fatal("an answer shares memory with an argument", p, one)
				}
			}
		}
	}
}

// What was handed in may change later: an answer does not.
func TestPeersAreNewMemory(t *testing.T) {
	s := impl.Space{Bits: 5, Digit: 1}
	for _, m := range ringsOf(s) {
		for _, p := range goodPeersOf(s, m) {
			given, ring, backs := clonePeers(p), append([]int(nil), m...), []int{m[0], m[0]}
			ideal, _ := impl.IdealPeers(s, ring, 3)
			set, _ := impl.SetPoint(given, m[0], m[0], backs)
			ids, _ := impl.MembersOf(given)
			was := peersText(ideal) + peersText(set) + numbersText(ids)
			spoil(ring)
			spoil(backs)
			spoilPeers(given)
			if now := peersText(ideal) + peersText(set) + numbersText(ids); now != was {
				t.Fatal("an answer shares memory with an argument", p, was, now)
			}
		}
	}
}

func TestNothingIsKeptOfPeers(t *testing.T) {
	s, m := impl.Space{Bits: 4, Digit: 2}, []int{2, 5, 11}
	p := modelIdeal(s, m, 2)
	want := allPeersAnswers(p, 5, 11, []int{2}) + ringTexts(s, m)
	for _, other := range append(peersOfAnyKind(), modelIdeal(impl.Space{Bits: 12, Digit: 1}, []int{5, 4095}, 3)) {
		allPeersAnswers(other, 5, 5, []int{5})
		ringTexts(other.Space, modelMembers(other))
		if got := allPeersAnswers(p, 5, 11, []int{2}) + ringTexts(s, m); got != want {
			t.Fatal(got, want)
		}
	}
}
