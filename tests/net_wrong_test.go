package tests

import (
	"math"
	"testing"

	"loop.example/g00749/impl"
)

// Promise 18 for chapter 6: the zero answer for all that is wrong.

func wantZeroNet(t *testing.T, name string, n impl.Net, ok bool) {
	t.Helper()
	if !sameNet(n, impl.Net{}) || ok {
		t.Fatal(name, "got", netText(n), ok)
	}
}

// Zero of all functions of nets, whatever else they are asked with.
func wantZeroOfNet(t *testing.T, n impl.Net) {
	t.Helper()
	if impl.GoodNet(n) {
		t.Fatal("wrong one taken", netText(n))
	}
	id := 0
	if len(n.Peers.List) > 0 {
		id = n.Peers.List[0].Id
	}
	for _, look := range []int{0, 1, 3, 77, 255} {
		next, ok := impl.BeginLook(n, look, id, id)
		wantZeroNet(t, "BeginLook", next, ok)
	}
	for k := -1; k <= min(len(n.Bag), 14); k++ {
		next, ok := impl.HandOver(n, k)
		wantZeroNet(t, "HandOver", next, ok)
		next, ok = impl.LoseMsg(n, k)
		wantZeroNet(t, "LoseMsg", next, ok)
	}
	if l, ok := impl.OpenLooks(n); len(l) != 0 || ok {
		t.Fatal("OpenLooks", netText(n), "got", l, ok)
	}
	if l, ok := impl.LostLooks(n); len(l) != 0 || ok {
		t.Fatal("LostLooks", netText(n), "got", l, ok)
	}
}

func wantZeroPlay(t *testing.T, p impl.Peers, ttl int, asks [][]int, picks []int) {
	t.Helper()
	n, ok := impl.PlayNet(p, ttl, asks, picks)
	wantZeroNet(t, "PlayNet", n, ok)
}

// Peers with room for what wrongNets makes of them.
func peersToSpoil() []impl.Peers {
	return []impl.Peers{
		threePeers(), strayPeers(impl.Space{Bits: 4, Digit: 2}, []int{0, 1, 7, 15}, 3),
		modelIdeal(impl.Space{Bits: 9, Digit: 3}, []int{4, 100, 300, 511}, 2),
		strayPeers(impl.Space{Bits: 12, Digit: 1}, []int{0, 1000, 4095}, 8),
	}
}

func TestWrongNets(t *testing.T) {
	for _, p := range peersToSpoil() {
		wrong := wrongNets(p)
		if len(wrong) < 300 {
			t.Fatal("so few", len(wrong))
		}
		for _, n := range wrong {
			if modelGoodNet(n) {
				t.Fatal("the model takes it", netText(n))
			}
			wantZeroOfNet(t, n)
		}
	}
	wantZeroOfNet(t, impl.Net{})
	wantZeroOfNet(t, impl.Net{Ttl: 5, Begun: []int{1}})
}

func TestNetsOfWrongPeers(t *testing.T) {
	wantZero := func(p impl.Peers) {
		for _, ttl := range []int{0, 5, 1000} {
			n, ok := impl.NewNet(p, ttl)
			wantZeroNet(t, "NewNet", n, ok)
			wantZeroPlay(t, p, ttl, nil, nil)
		}
		id := 0
		if len(p.List) > 0 {
			id = p.List[0].Id
		}
		wantZeroPlay(t, p, 5, [][]int{{1, id, id}}, []int{0, 0})
		wantZeroOfNet(t, impl.Net{Peers: p, Ttl: 5})
		wantZeroOfNet(t, impl.Net{Peers: p, Ttl: 5, Begun: []int{0}, Bag: []impl.Msg{{Kind: 1, To: id, From: id}}})
	}
	for _, p := range peersOfAnyKind() {
		wantZero(p)
	}
	for _, p := range peersToSpoil() {
		for _, wrong := range wrongPeers(p.Space, modelMembers(p)) {
			wantZero(wrong)
		}
		for _, s := range append(wrongSpaces(), spacesUpTo(2)...) {
			p.Space = s
			wantZero(p)
		}
	}
}

func TestNetsOfWrongTtls(t *testing.T) {
	for _, p := range netPeers() {
		for _, ttl := range wrongTtls() {
			n, ok := impl.NewNet(p, ttl)
			wantZeroNet(t, "NewNet", n, ok)
			wantZeroPlay(t, p, ttl, nil, nil)
			wantZeroPlay(t, p, ttl, someAsks(p, 3), []int{0, 1, 2})
			wantZeroOfNet(t, impl.Net{Peers: p, Ttl: ttl})
		}
	}
}

func TestBeginWrongLooks(t *testing.T) {
	for _, p := range netPeers() {
		ids := modelMembers(p)
		for _, n := range []impl.Net{modelNew(p, 5), strayNet(p, 5, 6, 9), fullNet(p, 5, true), fullNet(p, 5, false)} {
			for _, look := range append([]int{-1, -255, 256, 257, 1 << 32, math.MaxInt, math.MinInt}, n.Begun...) {
				next, ok := impl.BeginLook(n, look, ids[0], 0)
				wantZeroNet(t, "BeginLook", next, ok)
			}
			for _, id := range noneOf(p.Space, ids) {
				next, ok := impl.BeginLook(n, 3, id, 0)
				wantZeroNet(t, "BeginLook", next, ok)
			}
			for _, key := range wrongNumbers(p.Space) {
				next, ok := impl.BeginLook(n, 3, ids[0], key)
				wantZeroNet(t, "BeginLook", next, ok)
			}
		}
		for _, inBag := range []bool{true, false} {
			next, ok := impl.BeginLook(fullNet(p, 5, inBag), 3, ids[0], 0)
			wantZeroNet(t, "BeginLook", next, ok)
		}
	}
}

// Numbers that are none of the Bag's.
func TestMovesOfNoMessage(t *testing.T) {
	for _, p := range netPeers() {
		for _, n := range someNets(p) {
			many := len(n.Bag)
			for _, k := range []int{-1, -2, -many, many, many + 1, 12, 13, 1 << 32, math.MaxInt, math.MinInt} {
				if k >= 0 && k < many {
					continue
				}
				next, ok := impl.HandOver(n, k)
				wantZeroNet(t, "HandOver", next, ok)
				next, ok = impl.LoseMsg(n, k)
				wantZeroNet(t, "LoseMsg", next, ok)
			}
		}
	}
}

func TestWrongAsks(t *testing.T) {
	for _, p := range netPeers() {
		ids := modelMembers(p)
		good := []int{7, ids[0], 0}
		wrong := [][]int{
			nil, {}, {8}, {8, ids[0]}, {8, ids[0], 0, 0}, {8, ids[0], 0, 9, ids[0], 0}, make([]int, 1000),
			{7, ids[0], 0}, {-1, ids[0], 0}, {256, ids[0], 0}, {math.MinInt, ids[0], 0}, {math.MaxInt, ids[0], 0}, {1<<32 + 8, ids[0], 0},
		}
		for _, id := range noneOf(p.Space, ids) {
			wrong = append(wrong, []int{8, id, 0})
		}
		for _, key := range wrongNumbers(p.Space) {
			wrong = append(wrong, []int{8, ids[0], key})
		}
		for _, ask := range wrong {
			for _, picks := range [][]int{nil, {0}, {0, 0, 500, 1, 2, 3}} {
				wantZeroPlay(t, p, 9, [][]int{good, ask}, picks)
				wantZeroPlay(t, p, 9, [][]int{ask, good}, picks)
				wantZeroPlay(t, p, 9, [][]int{good, {9, ids[0], 0}, ask}, picks)
			}
		}
	}
}

func TestTooManyAsks(t *testing.T) {
	for _, p := range netPeers() {
		id := p.List[0].Id
		for _, many := range []int{13, 14, 256, 100000} {
			asks := make([][]int, many)
			for i := range asks {
				asks[i] = []int{i % 256, id, 0}
			}
			wantZeroPlay(t, p, 9, asks, nil)
			wantZeroPlay(t, p, 9, asks, make([]int, 300))
			if n, ok := impl.PlayNet(p, 9, asks[:12], nil); len(n.Begun) != 12 || !ok {
				t.Fatal("twelve refused", p, netText(n))
			}
		}
	}
}

// A pick that is none is told so too where it would never be taken.
func TestWrongPicks(t *testing.T) {
	for _, p := range netPeers() {
		for _, asks := range [][][]int{nil, someAsks(p, 1), someAsks(p, 12)} {
			for _, pick := range []int{-1, -2, -500, 1000, 1001, 1 << 32, math.MaxInt, math.MinInt} {
				wantZeroPlay(t, p, 9, asks, []int{pick})
				wantZeroPlay(t, p, 9, asks, []int{pick, 0, 0})
				wantZeroPlay(t, p, 9, asks, []int{0, 500, pick})
				picks := make([]int, 300)
				picks[299] = pick
				wantZeroPlay(t, p, 9, asks, picks)
			}
			for _, many := range []int{301, 302, 1000, 100000} {
				wantZeroPlay(t, p, 9, asks, make([]int, many))
			}
		}
	}
}
