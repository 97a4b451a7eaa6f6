package tests

import (
	"strconv"
	"testing"

	"loop.example/g00749/impl"
)

// Promise 6, with the program's own functions of chapters 2 to 4: in whatever
// order messages are handed over, all that is found is right.

func checkReplies(t *testing.T, n impl.Net, asks [][]int) {
	t.Helper()
	ids, _ := impl.MembersOf(n.Peers)
	for _, r := range n.Replies {
		id, key := askedBy(asks, r.Look)
		owner, _ := impl.OwnerOf(n.Peers.Space, ids, key)
		w, _, ok := impl.RouteOf(n.Peers, id, key, n.Ttl)
		if !ok || r.Key != key || r.Hops != w.Points+w.Succs || r.Hops > n.Ttl || r.Owner != w.Owner || r.Found != (w.State == impl.WkFound) {
			t.Fatal(asks, netText(n), "got", r, "want", w, ok)
		}
		if r.Found && r.Owner != owner || !r.Found && r.Owner != 0 {
			t.Fatal(asks, netText(n), "got", r, "the owner is", owner)
		}
	}
}

func askedBy(asks [][]int, look int) (id, key int) {
	for _, ask := range asks {
		if ask[0] == look {
			return ask[1], ask[2]
		}
	}
	return -1, -1
}

// Every net to which some order of handing over and losing comes.
func checkEveryOrder(t *testing.T, n impl.Net, asks [][]int, canLose bool) int {
	t.Helper()
	seen := map[string]bool{}
	todo := []impl.Net{n}
	ends := map[string]bool{}
	for len(todo) > 0 {
		at := todo[len(todo)-1]
		todo = todo[:len(todo)-1]
		if text := netText(at); seen[text] {
			continue
		} else {
			seen[text] = true
		}
		if !impl.GoodNet(at) {
			t.Fatal("came to no good net", netText(at))
		}
		checkReplies(t, at, asks)
		checkPlaces(t, at, len(asks))
		if len(at.Bag) == 0 {
			ends[netText(at)] = true
		}
		for k := range at.Bag {
			next, ok := impl.HandOver(at, k)
			if !ok {
				t.Fatal("can not be handed over", netText(at), k)
			}
			todo = append(todo, next)
			if canLose {
				next, _ = impl.LoseMsg(at, k)
				todo = append(todo, next)
			}
		}
	}
	return len(ends)
}

// Each look is in a message, in a reply, or lost.
func checkPlaces(t *testing.T, n impl.Net, many int) {
	t.Helper()
	open, ok := impl.OpenLooks(n)
	lost, too := impl.LostLooks(n)
	if !ok || !too || len(open)+len(lost)+len(n.Replies) != many || len(n.Begun) != many {
		t.Fatal(netText(n), "open", open, "lost", lost)
	}
	if !sameList(open, modelOpen(n)) || !sameList(lost, modelLost(n)) {
		t.Fatal(netText(n), "open", open, "lost", lost)
	}
}

func beginAll(t *testing.T, p impl.Peers, ttl int, asks [][]int) impl.Net {
	t.Helper()
	n, ok := impl.NewNet(p, ttl)
	for _, ask := range asks {
		if n, ok = impl.BeginLook(n, ask[0], ask[1], ask[2]); !ok {
			t.Fatal(p, ttl, "not taken", ask)
		}
	}
	return n
}

func TestPromise6EveryOrder(t *testing.T) {
	s := impl.Space{Bits: 4, Digit: 1}
	for i, p := range append(routePeersOf(s, []int{2, 5, 11}), routePeersOf(s, []int{0, 4, 8, 12})...) {
		ids := modelMembers(p)
		for _, ttl := range []int{0, 2, 1000} {
			asks := [][]int{{9, ids[0], (i*5 + 13) % 16}, {255, ids[1], (i*3 + 1) % 16}, {0, ids[2], (i + 7) % 16}}
			// Replies come in each order that there is.
			if ends := checkEveryOrder(t, beginAll(t, p, ttl, asks), asks, false); ends != 6 {
				t.Fatal(p, ttl, asks, "came to so many ends", ends)
			}
			// And with some lost: none, or any of them in any order.
			if ends := checkEveryOrder(t, beginAll(t, p, ttl, asks), asks, true); ends != 16 {
				t.Fatal(p, ttl, asks, "came to so many ends", ends)
			}
		}
	}
}

func TestPromise6EveryPointing(t *testing.T) {
	rings := map[impl.Space][][]int{
		{Bits: 1, Digit: 1}: {{0}, {1}, {0, 1}},
		{Bits: 2, Digit: 1}: {{2}, {0, 3}, {1, 2, 3}},
		{Bits: 3, Digit: 1}: {{1, 6}, {0, 3, 4}},
		{Bits: 4, Digit: 2}: {{2, 5, 11}},
	}
	for s, l := range rings {
		for _, m := range l {
			for _, p := range everyPointing(s, m) {
				bound, _ := impl.BoundOf(p)
				for key := 0; key < powerOf2(s.Bits); key++ {
					asks := [][]int{{1, m[0], key}, {2, m[len(m)-1], powerOf2(s.Bits) - 1 - key}}
					if ends := checkEveryOrder(t, beginAll(t, p, bound, asks), asks, false); ends != 2 {
						t.Fatal(p, asks, "came to so many ends", ends)
					}
				}
			}
		}
	}
}

// pickOrders has picks that hand over all alike in many orders: the first one
// always, the last one always, and some that go anywhere.
func pickOrders(many int) [][]int {
	orders := [][]int{}
	for _, rule := range []func(i int) int{
		func(i int) int { return 0 }, func(i int) int { return 499 }, func(i int) int { return 11 }, func(i int) int { return i % 500 },
		func(i int) int { return i * i % 500 }, func(i int) int { return (499 - 7*i%500) % 500 }, func(i int) int { return i * 193 % 499 },
	} {
		picks := make([]int, many)
		for i := range picks {
			picks[i] = rule(i)
		}
		orders = append(orders, picks)
	}
	return orders
}

// withLosses has some of the picks lose what they pick.
func withLosses(picks []int, each int) []int {
	l := append([]int(nil), picks...)
	for i := range l {
		if i%each == each-1 {
			l[i] = 500 + l[i]
		}
	}
	return l
}

func someAsks(p impl.Peers, many int) [][]int {
	ids, size := modelMembers(p), powerOf2(p.Space.Bits)
	keys := []int{ids[0], oneDown(p.Space, ids[0]), oneUp(p.Space, ids[len(ids)-1]), 0, size - 1, size / 3}
	var asks [][]int
	for i := 0; i < many; i++ {
		// 255, 170, 85, 0, 171, 86, 1 ..: neither rising nor falling.
		asks = append(asks, []int{(255 + 171*i) % 256, ids[(i*5+many)%len(ids)], keys[i%6]})
	}
	return asks
}

func checkPlay(t *testing.T, play netPlay, picks []int) impl.Net {
	t.Helper()
	want := play.netAfter(picks)
	n, ok := impl.PlayNet(play.peers, play.ttl, play.asks, picks)
	if !ok || !sameNet(n, want) {
		t.Fatal(play.asks, picks, "got", netText(n), ok, "want", netText(want))
	}
	if !impl.GoodNet(n) {
		t.Fatal("came to no good net", netText(n))
	}
	checkReplies(t, n, play.asks)
	checkPlaces(t, n, len(play.asks))
	return n
}

func TestPlayNet(t *testing.T) {
	for _, p := range netPeers() {
		bound, _ := impl.BoundOf(p)
		for _, many := range []int{0, 1, 5, 12} {
			asks := someAsks(p, many)
			for _, ttl := range []int{0, 3, bound} {
				play := playOf(p, ttl, asks)
				for i, picks := range pickOrders(300) {
					n := checkPlay(t, play, picks)
					for _, r := range n.Replies {
						if ttl >= bound && !r.Found {
							t.Fatal(p, asks, picks, "not found", netText(n))
						}
					}
					checkPlay(t, play, withLosses(picks, 2+i))
					for _, turns := range []int{0, 1, many, 2*many + 1, 40} {
						checkPlay(t, play, picks[:turns])
					}
				}
			}
		}
	}
}

// With picks enough all that were asked are found, in whatever order; with one
// less all but one.
func TestPlayNetFindsAll(t *testing.T) {
	for _, p := range netPeers() {
		for many := 1; many <= 12; many++ {
			play := playOf(p, 1000, someAsks(p, many))
			turns := play.turnsToEnd()
			if turns > 300 {
				break
			}
			for _, picks := range pickOrders(turns) {
				n := checkPlay(t, play, picks)
				if len(n.Replies) != many || len(n.Bag) != 0 {
					t.Fatal(play.asks, picks, "got", netText(n))
				}
				n = checkPlay(t, play, picks[1:])
				if len(n.Replies) != many-1 || len(n.Bag) != 1 {
					t.Fatal(play.asks, picks[1:], "got", netText(n))
				}
			}
		}
	}
}

// A ttl of just enough finds, and one less does not.
func TestTtlOfJustEnough(t *testing.T) {
	for _, p := range netPeers() {
		for _, ask := range someAsks(p, 6) {
			hops := len(modelRow(p, 1000, ask[0], ask[1], ask[2]).msgs) - 2
			picks := make([]int, 300)
			n := checkPlay(t, playOf(p, hops, [][]int{ask}), picks)
			if len(n.Replies) != 1 || !n.Replies[0].Found || n.Replies[0].Hops != hops {
				t.Fatal(p, hops, ask, netText(n))
			}
			if hops == 0 {
				continue
			}
			n = checkPlay(t, playOf(p, hops-1, [][]int{ask}), picks)
			if len(n.Replies) != 1 || n.Replies[0].Found || n.Replies[0].Hops != hops-1 || n.Replies[0].Owner != 0 {
				t.Fatal(p, hops-1, ask, netText(n))
			}
		}
	}
}

// Every row of picks of a few: of those that hand over and those that lose, at
// both ends.
func TestEveryRowOfPicks(t *testing.T) {
	p := threePeers()
	play := playOf(p, 1000, [][]int{{3, 5, 4}, {2, 11, 10}, {200, 2, 2}})
	for long := 0; long <= 5; long++ {
		for _, picks := range listsOf([]int{0, 1, 2, 499, 500, 999}, long) {
			checkPlay(t, play, picks)
		}
	}
}

func TestPicks(t *testing.T) {
	p := threePeers()
	three := [][]int{{1, 2, 2}, {2, 5, 5}, {3, 11, 11}}
	for _, c := range []struct {
		name    string
		asks    [][]int
		picks   []int
		bag     []int
		replies []int
		lost    []int
	}{
		{"no asks, no picks", nil, nil, nil, nil, nil},
		{"no asks", nil, []int{0, 499, 500, 999}, nil, nil, nil},
		{"no picks", three, nil, []int{1, 2, 3}, nil, nil},
		{"0 takes the first one", three, []int{0}, []int{2, 3, 1}, nil, nil},
		{"499 hands over: of three the second", three, []int{499}, []int{1, 3, 2}, nil, nil},
		{"500 loses: of three the third", three, []int{500}, []int{1, 2}, nil, []int{3}},
		{"999 loses: of three the first", three, []int{999}, []int{2, 3}, nil, []int{1}},
		{"500 of one", three[:1], []int{500}, nil, nil, []int{1}},
		{"499 of one", three[:1], []int{499, 499}, nil, []int{1}, nil},
		{"by how many there still are", three, []int{501, 3}, []int{2, 3}, nil, []int{1}},
		{"all lost", three, []int{500, 501, 502, 0, 0}, nil, nil, []int{1, 2, 3}},
		{"more than are wanted", three[1:2], []int{0, 0, 0, 500, 999}, nil, []int{2}, nil},
		{"one behind the other", three, []int{0, 2, 0, 1, 0, 0}, nil, []int{1, 2, 3}, nil},
		{"the last one first", three, []int{2, 2, 1, 1, 0, 0}, nil, []int{3, 2, 1}, nil},
	} {
		n := checkPlay(t, playOf(p, 9, c.asks), c.picks)
		var bag, replies []int
		for _, m := range n.Bag {
			bag = append(bag, m.Look)
		}
		for _, r := range n.Replies {
			replies = append(replies, r.Look)
		}
		lost, _ := impl.LostLooks(n)
		if !sameList(bag, c.bag) || !sameList(replies, c.replies) || !sameList(lost, c.lost) {
			t.Error(c.name, "got", bag, replies, lost)
		}
	}
}

// Playing is doing one thing behind the other.
func TestPlayNetStepByStep(t *testing.T) {
	for i, p := range netPeers() {
		asks := someAsks(p, 1+i%12)
		play := playOf(p, 40, asks)
		for j, picks := range pickOrders(60) {
			picks = withLosses(picks, 7+j)
			n := beginAll(t, p, 40, asks)
			for _, pick := range picks {
				if len(n.Bag) == 0 {
					break
				}
				ok := false
				if pick < 500 {
					n, ok = impl.HandOver(n, pick%len(n.Bag))
				} else {
					n, ok = impl.LoseMsg(n, pick%len(n.Bag))
				}
				if !ok {
					t.Fatal(p, asks, picks, "stuck at", pick)
				}
			}
			if got := checkPlay(t, play, picks); !sameNet(got, n) {
				t.Fatal(p, asks, picks, "got", netText(got), "want", netText(n))
			}
		}
	}
}

// From nets that stand anyhow too: what a peer finds is right, whatever it was
// sent.
func TestPromise6FromAnyNet(t *testing.T) {
	for _, p := range netPeers() {
		ids := modelMembers(p)
		for seed := 1; seed <= 20; seed++ {
			n := strayNet(p, 1000, 12, seed*31)
			for k, m := range n.Bag {
				next, ok := impl.HandOver(n, k)
				if !ok {
					t.Fatal("can not be handed over", netText(n), k)
				}
				if m.Kind != impl.MgFind {
					continue
				}
				came := next.Bag[len(next.Bag)-1]
				owner, _ := impl.OwnerOf(p.Space, ids, m.Key)
				if came.Look != m.Look || came.Key != m.Key || came.Kind == impl.MgFound && came.Imag != owner {
					t.Fatal(netText(n), k, "got", came, "the owner is", owner)
				}
			}
		}
	}
}

// A way of a thousand forwards, one message behind the other: up to Hops of
// 1000 it goes on; there it is found or spent.
func TestUpToHopsOf1000(t *testing.T) {
	p := modelIdeal(impl.Space{Bits: 4, Digit: 1}, []int{2, 5, 11}, 0)
	for _, c := range []struct {
		hops, ttl int
		kinds     string
		reply     impl.Reply
	}{
		{998, 998, "13", impl.Reply{Hops: 998}}, {998, 999, "113", impl.Reply{Hops: 999}}, {998, 1000, "1112", impl.Reply{Owner: 2, Hops: 1000, Found: true}},
		{999, 998, "13", impl.Reply{Hops: 999}}, {999, 999, "13", impl.Reply{Hops: 999}}, {999, 1000, "113", impl.Reply{Hops: 1000}},
		{1000, 998, "13", impl.Reply{Hops: 1000}}, {1000, 999, "13", impl.Reply{Hops: 1000}}, {1000, 1000, "13", impl.Reply{Hops: 1000}},
	} {
		n := modelNew(p, c.ttl)
		n.Begun = []int{4}
		n.Bag = []impl.Msg{{Kind: 1, Look: 4, To: 2, From: 2, Key: 1, Imag: 2, Left: 0, Hops: c.hops}}
		kinds, ok := "", true
		for ok && len(n.Bag) > 0 {
			kinds += strconv.Itoa(n.Bag[0].Kind)
			checkMoves(t, n)
			n, ok = impl.HandOver(n, 0)
		}
		c.reply.Look, c.reply.Key = 4, 1
		if !ok || kinds != c.kinds || len(n.Replies) != 1 || n.Replies[0] != c.reply {
			t.Error(c.hops, c.ttl, "got", kinds, netText(n), ok)
		}
	}
}
