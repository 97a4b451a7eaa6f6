package tests

import (
	"testing"

	"loop.example/g00749/impl"
)

// Promise 4, with the program's own functions of chapters 1 to 3: however
// pointers stand, the owner is found with BoundOf forwards, with fewer it or
// nothing, and never another one.

func checkPromise4(t *testing.T, p impl.Peers, id, key int) {
	t.Helper()
	bound, ok := impl.BoundOf(p)
	if !ok {
		t.Fatal("no bound", p)
	}
	m, _ := impl.MembersOf(p)
	owner, _ := impl.OwnerOf(p.Space, m, key)
	w, path, ok := impl.RouteOf(p, id, key, bound)
	hops := w.Points + w.Succs
	if !ok || w.State != impl.WkFound || w.Owner != owner || hops > bound {
		t.Fatal(p, "from", id, "to", key, "owner", owner, "bound", bound, "got", w, path, ok)
	}
	checkPath(t, p, id, w, path)
	for _, ttl := range []int{0, 1, hops / 2, hops - 1, hops, hops + 1, bound, 1000} {
		if ttl < 0 {
			continue
		}
		got, path, ok := impl.RouteOf(p, id, key, ttl)
		if !ok || got.Points+got.Succs > ttl || !impl.GoodWalk(p, key, got) {
			t.Fatal(p, "from", id, "to", key, "ttl", ttl, "got", got, path, ok)
		}
		if ttl >= hops && got != w {
			t.Fatal(p, "from", id, "to", key, "ttl", ttl, "got", got, "want", w)
		}
		if ttl < hops && (got.State != impl.WkSpent || got.Owner != 0 || got.Points+got.Succs != ttl) {
			t.Fatal(p, "from", id, "to", key, "ttl", ttl, "got", got)
		}
		checkPath(t, p, id, got, path)
	}
}

// A path goes from the Id by Points and Succs alone, to where the walk is.
func checkPath(t *testing.T, p impl.Peers, id int, w impl.Walk, path []int) {
	t.Helper()
	if len(path) != w.Points+w.Succs+1 || path[0] != id || path[len(path)-1] != w.At {
		t.Fatal(p, "from", id, "got", w, path)
	}
	for i, at := range path[1:] {
		if peer := modelPeer(p, path[i]); at != peer.Point && at != peer.Succ {
			t.Fatal(p, "from", id, "got", path, "which leaves by no pointer at", i)
		}
	}
}

func TestPromise4(t *testing.T) {
	for _, s := range spacesUpTo(12) {
		for _, m := range someFewRings(s) {
			for i, p := range routePeersOf(s, m) {
				for k, key := range routeKeys(s, m) {
					for _, id := range []int{m[0], m[(i+k)%len(m)], m[len(m)-1]} {
						checkPromise4(t, p, id, key)
					}
				}
			}
		}
	}
}

// Every choice of pointers in small rings.
func TestPromise4EveryPointing(t *testing.T) {
	rings := map[impl.Space][][]int{
		{Bits: 1, Digit: 1}: {{0}, {1}, {0, 1}},
		{Bits: 2, Digit: 1}: {{2}, {0, 3}, {1, 2, 3}, {0, 1, 2, 3}},
		{Bits: 2, Digit: 2}: {{0, 3}, {0, 1, 2, 3}},
		{Bits: 3, Digit: 1}: {{1, 6}, {0, 3, 4}, {1, 2, 4, 7}},
		{Bits: 3, Digit: 3}: {{0, 3, 4}, {1, 2, 4, 7}},
		{Bits: 4, Digit: 2}: {{2, 5, 11}, {0, 1, 7, 15}},
	}
	for s, l := range rings {
		for _, m := range l {
			for _, p := range everyPointing(s, m) {
				for key := 0; key < powerOf2(s.Bits); key++ {
					for _, id := range m {
						checkPromise4(t, p, id, key)
					}
				}
			}
		}
	}
}

// Whoever steps from a good walk that stands anyhow is told no other owner
// either, and comes to one where the ttl allows for it.
func TestPromise4FromAnyWalk(t *testing.T) {
	for _, s := range []impl.Space{{Bits: 3, Digit: 1}, {Bits: 4, Digit: 2}} {
		for _, m := range [][]int{{5}, {0, 7}, {1, 3, 6}, {0, 1, 2, 3, 4, 5, 6, 7}} {
			for _, p := range routePeersOf(s, m) {
				for key := 0; key < powerOf2(s.Bits); key++ {
					for imag := 0; imag < powerOf2(s.Bits); imag++ {
						w := impl.Walk{At: m[(key+imag)%len(m)], Imag: imag, Left: imag % (s.Bits/s.Digit + 1)}
						checkAnyWalk(t, p, key, w)
					}
				}
			}
		}
	}
}

func checkAnyWalk(t *testing.T, p impl.Peers, key int, w impl.Walk) {
	t.Helper()
	m := modelMembers(p)
	// One more round: the number it begins with may be anywhere.
	bound, _ := impl.BoundOf(p)
	bound += len(m)
	first := w
	for w.State == impl.WkOn {
		next, ok := impl.StepWalk(p, key, bound, w)
		if !ok {
			t.Fatal("no step", p, key, w)
		}
		w = next
	}
	if w.State != impl.WkFound || w.Owner != modelOwner(p.Space, m, key) {
		t.Fatal(p, key, "from", first, "came to", w)
	}
}

// In ideal peers no more pointers are taken than the gap of whoever asks
// leaves digits, nor in any others.
func TestPromise4Points(t *testing.T) {
	for _, s := range spacesUpTo(12) {
		for _, m := range append(someFewRings(s), ringsOf(s)[len(ringsOf(s))/3]) {
			for _, p := range routePeersOf(s, m) {
				for _, id := range m {
					most := modelMostPoints(s, m, id)
					for _, key := range routeKeys(s, m) {
						w, path, ok := impl.RouteOf(p, id, key, 1000)
						if !ok || w.Points > most {
							t.Fatal(p, "from", id, "to", key, "at most", most, "got", w, path, ok)
						}
						start, _ := impl.StartAt(p, id, key)
						if start.Left > most || start.Left != w.Points+w.Left {
							t.Fatal(p, "from", id, "to", key, "at most", most, "got", start, w)
						}
					}
				}
			}
		}
	}
}

// Once all digits are shifted in the number is the key itself.
func TestPromise4ComesToTheKey(t *testing.T) {
	for _, s := range spacesUpTo(12) {
		for _, m := range someFewRings(s) {
			for _, p := range routePeersOf(s, m) {
				for _, key := range routeKeys(s, m) {
					for _, id := range m {
						if w, _, ok := impl.RouteOf(p, id, key, 1000); !ok || w.Left == 0 && w.Imag != key {
							t.Fatal(p, "from", id, "to", key, "got", w, ok)
						}
					}
				}
			}
		}
	}
}
