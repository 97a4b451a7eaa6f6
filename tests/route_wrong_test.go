package tests

import (
	"math"
	"testing"

	"loop.example/g00749/impl"
)

// Promise 18 for chapter 4: the zero answer for all that is wrong, nothing
// written into peers that are handed in, and answers that are new memory.

func wantZeroWalk(t *testing.T, name string, p impl.Peers, key int, w impl.Walk, ok bool) {
	t.Helper()
	if w != (impl.Walk{}) || ok {
		t.Fatal(name, p, key, "got", w, ok)
	}
}

func wantZeroRoute(t *testing.T, p impl.Peers, id, key, ttl int) {
	t.Helper()
	if w, path, ok := impl.RouteOf(p, id, key, ttl); w != (impl.Walk{}) || len(path) != 0 || ok {
		t.Fatal("RouteOf", p, id, key, ttl, "got", w, path, ok)
	}
}

func wantZeroStep(t *testing.T, p impl.Peers, key, ttl int, w impl.Walk) {
	t.Helper()
	next, ok := impl.StepWalk(p, key, ttl, w)
	if next != (impl.Walk{}) || ok {
		t.Fatal("StepWalk", p, key, ttl, w, "got", next, ok)
	}
}

// Zero of all functions of peers and a key, whatever else they are asked with.
func wantZeroWalks(t *testing.T, p impl.Peers, id, key int) {
	t.Helper()
	w, ok := impl.StartAt(p, id, key)
	wantZeroWalk(t, "StartAt", p, key, w, ok)
	for _, w := range []impl.Walk{{}, {At: id}, {At: id, Imag: key}, {At: id, State: 1, Owner: id}, {At: id, State: 2}} {
		if impl.GoodWalk(p, key, w) {
			t.Fatal("wrong one taken", p, key, w)
		}
		wantZeroStep(t, p, key, 5, w)
	}
	for _, ttl := range []int{0, 1, 1000} {
		wantZeroRoute(t, p, id, key, ttl)
	}
	if l, ok := impl.HopsIn(p, key); len(l) != 0 || ok {
		t.Fatal("HopsIn", p, key, "got", l, ok)
	}
}

func wantZeroOfWrongPeers(t *testing.T, p impl.Peers) {
	t.Helper()
	if n, ok := impl.BoundOf(p); n != 0 || ok {
		t.Fatal("BoundOf", p, "got", n, ok)
	}
	ids := []int{0}
	if len(p.List) > 0 {
		ids = []int{0, p.List[0].Id, p.List[len(p.List)-1].Id}
	}
	for _, id := range ids {
		wantZeroWalks(t, p, id, 0)
		wantZeroWalks(t, p, id, id)
	}
	wantZeroWalks(t, p, ids[0], 1)
}

func TestWalksOfWrongPeers(t *testing.T) {
	for _, p := range peersOfAnyKind() {
		wantZeroOfWrongPeers(t, p)
	}
	for _, s := range spacesUpTo(12) {
		for _, m := range someFewRings(s) {
			if len(m) == 16 && s.Bits > 5 {
				continue
			}
			for _, p := range wrongPeers(s, m) {
				wantZeroOfWrongPeers(t, p)
			}
		}
	}
	p := modelIdeal(impl.Space{Bits: 6, Digit: 2}, []int{3, 17, 40}, 2)
	for _, s := range append(wrongSpaces(), spacesUpTo(5)...) {
		p.Space = s
		wantZeroOfWrongPeers(t, p)
	}
}

func TestWalksOfWrongKeys(t *testing.T) {
	for _, s := range spacesUpTo(12) {
		for _, m := range someFewRings(s) {
			for _, p := range routePeersOf(s, m) {
				for _, key := range wrongNumbers(s) {
					wantZeroWalks(t, p, m[0], key)
				}
			}
		}
	}
}

func TestWalksOfWrongIds(t *testing.T) {
	for _, s := range spacesUpTo(12) {
		for _, m := range someFewRings(s) {
			for _, p := range routePeersOf(s, m)[:2] {
				for _, id := range noneOf(s, m) {
					for _, key := range []int{0, m[0], powerOf2(s.Bits) - 1} {
						w, ok := impl.StartAt(p, id, key)
						wantZeroWalk(t, "StartAt", p, key, w, ok)
						wantZeroRoute(t, p, id, key, 0)
						wantZeroRoute(t, p, id, key, 1000)
					}
				}
			}
		}
	}
}

// A ttl that is none is told so too where the key is found at once, and where
// all else is wrong as well.
func TestWalksOfWrongTtls(t *testing.T) {
	for _, s := range spacesUpTo(12) {
		for _, m := range someFewRings(s) {
			p := strayPeers(s, m, 5)
			for _, ttl := range wrongTtls() {
				for _, key := range []int{m[0], modelNext(s, m, m[0]), oneDown(s, m[0]), oneUp(s, m[0])} {
					wantZeroRoute(t, p, m[0], key, ttl)
					wantZeroStep(t, p, key, ttl, impl.Walk{At: m[0]})
					wantZeroStep(t, p, key, ttl, impl.Walk{At: m[0], Imag: key, Left: 1, Points: 3})
				}
				wantZeroRoute(t, p, -1, -1, ttl)
			}
		}
	}
}

func TestWrongWalks(t *testing.T) {
	for _, s := range spacesUpTo(12) {
		for _, m := range someFewRings(s) {
			p := modelIdeal(s, m, 1)
			for _, key := range []int{m[0], m[len(m)/2], oneUp(s, m[len(m)/2]), powerOf2(s.Bits) - 1} {
				for _, w := range wrongWalks(p, key) {
					if impl.GoodWalk(p, key, w) {
						t.Fatal("wrong one taken", p, key, w)
					}
					wantZeroStep(t, p, key, 0, w)
					wantZeroStep(t, p, key, 1000, w)
				}
			}
		}
	}
}

// Walks that are good and can not step: those that came to an end, and those
// that have no room for a forward, even where they need none.
func TestWalksThatCanNotStep(t *testing.T) {
	for _, s := range spacesUpTo(12) {
		for _, m := range someFewRings(s) {
			p := modelIdeal(s, m, 1)
			for _, key := range []int{m[0], modelNext(s, m, m[0]), oneDown(s, m[0])} {
				for _, w := range []impl.Walk{
					{At: m[0], State: 1, Owner: m[0]}, {At: m[0], State: 1, Owner: modelOwner(s, m, key)},
					{At: m[0], State: 2}, {At: m[0], Imag: key, Left: 1, Points: 3, Succs: 4, State: 2},
					{At: m[0], Points: 1000}, {At: m[0], Succs: 1000}, {At: m[0], Points: 1000, Succs: 1000},
					{At: m[0], Imag: m[0], Left: 1, Points: 1000, Succs: 5}, {At: m[0], Points: 5, Succs: 1000},
				} {
					if !impl.GoodWalk(p, key, w) {
						t.Fatal("good one refused", p, key, w)
					}
					for _, ttl := range []int{0, 7, 999, 1000} {
						wantZeroStep(t, p, key, ttl, w)
					}
				}
			}
		}
	}
}

func TestBestImagOfWrongNumbers(t *testing.T) {
	wantZero := func(s impl.Space, from, to, key int) {
		if imag, left, ok := impl.BestImag(s, from, to, key); imag != 0 || left != 0 || ok {
			t.Fatal(s, from, to, key, "got", imag, left, ok)
		}
	}
	for _, s := range spacesUpTo(12) {
		for _, x := range wrongNumbers(s) {
			for _, y := range []int{0, 1, powerOf2(s.Bits) - 1} {
				wantZero(s, x, y, y)
				wantZero(s, y, x, y)
				wantZero(s, y, y, x)
				wantZero(s, x, x, y)
				wantZero(s, y, x, x)
				wantZero(s, x, x, x)
			}
		}
	}
	for _, s := range wrongSpaces() {
		for _, l := range listsOf([]int{0, 1, 4095, -1, math.MaxInt, math.MinInt}, 3) {
			wantZero(s, l[0], l[1], l[2])
		}
	}
}

// allWalkAnswers asks all functions of chapter 4, tells what they answer, and
// writes over the lists.
func allWalkAnswers(p impl.Peers, id, key, ttl int) string {
	w, ok := impl.StartAt(p, id, key)
	text := walkText(w) + answerText(ok) + answerText(impl.GoodWalk(p, key, w))
	for _, w := range []impl.Walk{w, {At: id, Imag: key, Left: 1}, {At: id, State: 1, Owner: id}, {At: id, Succs: 999}} {
		text += answerText(impl.GoodWalk(p, key, w))
		next, ok := impl.StepWalk(p, key, ttl, w)
		text += walkText(next) + answerText(ok)
	}
	w, path, ok := impl.RouteOf(p, id, key, ttl)
	text += walkText(w) + numbersText(path) + answerText(ok)
	n, ok := impl.BoundOf(p)
	text += numbersText([]int{n}) + answerText(ok)
	hops, ok := impl.HopsIn(p, key)
	text += numbersText(hops) + answerText(ok)
	imag, left, ok := impl.BestImag(p.Space, id, key, key)
	text += numbersText([]int{imag, left}) + answerText(ok)
	spoil(path)
	spoil(hops)
	return text
}

func checkWalksStay(t *testing.T, p impl.Peers, id, key, ttl int) {
	t.Helper()
	want := allWalkAnswers(clonePeers(p), id, key, ttl)
	for _, behind := range []int{id, key, -1, math.MaxInt - 100} {
		lay := layOut(p, behind)
		was := lay.text()
		got := allWalkAnswers(lay.peers, id, key, ttl)
		if lay.text() != was {
			t.Fatal("peers changed, or shared with an answer", p, id, key, ttl)
		}
		if got != want {
			t.Fatal("hangs on what lies behind a list", p, id, key, ttl, got, want)
		}
	}
}

func TestPeersOfWalksStayAsTheyWere(t *testing.T) {
	for _, s := range spacesUpTo(12) {
		for _, m := range someFewRings(s) {
			for _, p := range append(routePeersOf(s, m), strayPeers(s, m, 9), modelIdeal(s, m, 3)) {
				for _, key := range []int{m[0], oneDown(s, m[0]), powerOf2(s.Bits) / 3} {
					checkWalksStay(t, p, m[0], key, 1000)
					checkWalksStay(t, p, m[len(m)-1], key, 1)
				}
				checkWalksStay(t, p, m[0], -1, 1000)
				checkWalksStay(t, p, -1, m[0], 1000)
				checkWalksStay(t, p, m[0], m[0], -1)
			}
		}
		if s.Bits == 5 {
			for _, p := range wrongPeers(s, []int{2, 5, 11}) {
				checkWalksStay(t, p, 5, 12, 1000)
			}
		}
	}
	for _, p := range peersOfAnyKind() {
		if len(p.List) < 20 {
			checkWalksStay(t, p, 0, 0, 1)
		}
	}
}

// What was handed in may change later, and another answer too: an answer does
// not.
func TestWalksAreNewMemory(t *testing.T) {
	s := impl.Space{Bits: 5, Digit: 1}
	for _, m := range ringsOf(s) {
		for _, p := range routePeersOf(s, m) {
			for _, key := range []int{m[0], oneDown(s, m[0]), 13} {
				given := clonePeers(p)
				_, path, _ := impl.RouteOf(given, m[0], key, 1000)
				_, other, _ := impl.RouteOf(given, m[0], key, 1000)
				hops, _ := impl.HopsIn(given, key)
				others, _ := impl.HopsIn(given, key)
				was := numbersText(path) + numbersText(hops)
				spoil(other)
				spoil(others)
				spoilPeers(given)
				if now := numbersText(path) + numbersText(hops); now != was {
					t.Fatal("an answer shares memory", p, key, was, now)
				}
			}
		}
	}
}

func TestNothingIsKeptOfWalks(t *testing.T) {
	p := threePeers()
	want := allWalkAnswers(p, 5, 4, 1000)
	others := append(peersOfAnyKind(), modelIdeal(impl.Space{Bits: 12, Digit: 1}, []int{5, 4095}, 3))
	for _, other := range append(others, samePoint(p.Space, []int{2, 5, 11})...) {
		allWalkAnswers(other, 5, 4, 1000)
		if got := allWalkAnswers(p, 5, 4, 1000); got != want {
			t.Fatal(got, want)
		}
	}
}
