package tests

import (
	"testing"

	"loop.example/g00749/impl"
)

func TestNetConstants(t *testing.T) {
	if impl.MaxBag != 12 || impl.MaxTurns != 300 {
		t.Error(impl.MaxBag, impl.MaxTurns)
	}
}

func TestNewNet(t *testing.T) {
	for _, p := range netPeers() {
		for _, ttl := range []int{0, 1, 5, 999, 1000} {
			n, ok := impl.NewNet(p, ttl)
			if !ok || !sameNet(n, modelNew(p, ttl)) || !impl.GoodNet(n) {
				t.Fatal(p, ttl, "got", n, ok)
			}
		}
	}
}

// A net at 2, 5 and 11 of 16 by bits, which point at 2, 5 and 5, with a look
// in a message of each kind, two in replies, and one in neither.
func sixLooks() impl.Net {
	return impl.Net{
		Peers: threePeers(), Ttl: 9, Begun: []int{0, 7, 30, 31, 100, 255},
		Bag: []impl.Msg{
			{Kind: 3, Look: 255, To: 2, From: 11, Key: 9, Hops: 9},
			{Kind: 1, Look: 7, To: 5, From: 2, Key: 12, Imag: 6, Left: 1, Hops: 3},
			{Kind: 2, Look: 31, To: 11, From: 5, Key: 8, Imag: 11, Hops: 2},
		},
		Replies: []impl.Reply{{Look: 100, Key: 3, Owner: 5, Hops: 1, Found: true}, {Look: 0, Key: 4, Hops: 9}},
	}
}

func TestGoodNet(t *testing.T) {
	for _, c := range []struct {
		name   string
		want   bool
		change func(n *impl.Net)
	}{
		{"as it is", true, func(n *impl.Net) {}},
		{"a Ttl of 0", true, func(n *impl.Net) { n.Ttl = 0 }},
		{"a Ttl of 1000", true, func(n *impl.Net) { n.Ttl = 1000 }},
		{"a Ttl of 1001", false, func(n *impl.Net) { n.Ttl = 1001 }},
		{"a Ttl below 0", false, func(n *impl.Net) { n.Ttl = -1 }},
		{"Hops of 1000", true, func(n *impl.Net) { n.Bag[1].Hops = 1000 }},
		{"Hops of 1001", false, func(n *impl.Net) { n.Bag[1].Hops = 1001 }},
		{"no messages", true, func(n *impl.Net) { n.Bag = nil }},
		{"an empty Bag", true, func(n *impl.Net) { n.Bag = []impl.Msg{} }},
		{"no replies", true, func(n *impl.Net) { n.Replies = nil }},
		{"neither", true, func(n *impl.Net) { n.Bag, n.Replies = nil, nil }},
		{"nothing begun", false, func(n *impl.Net) { n.Begun = nil }},
		{"nothing at all", true, func(n *impl.Net) { n.Bag, n.Begun, n.Replies = nil, []int{}, []impl.Reply{} }},
		{"no peers", false, func(n *impl.Net) { n.Peers = impl.Peers{} }},
		{"an empty List", true, func(n *impl.Net) { n.Bag[0].List = []int{} }},
		{"a List", false, func(n *impl.Net) { n.Bag[0].List = []int{2} }},
		{"a found owner that is no Id", true, func(n *impl.Net) { n.Bag[2].Imag = 15 }},
		{"a found owner outside", false, func(n *impl.Net) { n.Bag[2].Imag = 16 }},
		{"an Imag that is no Id", true, func(n *impl.Net) { n.Bag[1].Imag = 0 }},
		{"To that is no Id", false, func(n *impl.Net) { n.Bag[1].To = 6 }},
		{"From that is no Id", false, func(n *impl.Net) { n.Bag[0].From = 0 }},
		{"MgAsk", false, func(n *impl.Net) { n.Bag[0] = impl.Msg{Kind: 4, Look: 255, To: 2, From: 2} }},
		{"MgPut", false, func(n *impl.Net) { n.Bag[0].Kind = 7 }},
		{"MgGet", false, func(n *impl.Net) { n.Bag[0] = impl.Msg{Kind: 8, Look: 255, To: 2, From: 2} }},
		{"no kind", false, func(n *impl.Net) { n.Bag[0] = impl.Msg{Look: 255, To: 2, From: 2} }},
		{"a look in two messages", false, func(n *impl.Net) { n.Bag[0].Look = 7 }},
		{"a look in two replies", false, func(n *impl.Net) { n.Replies[0].Look = 0 }},
		{"a look in a message and a reply", false, func(n *impl.Net) { n.Replies[0].Look = 31 }},
		{"a message whose look is not begun", false, func(n *impl.Net) { n.Bag[1].Look = 8 }},
		{"a reply whose look is not begun", false, func(n *impl.Net) { n.Replies[1].Look = 1 }},
		{"a look moved to the one in neither", true, func(n *impl.Net) { n.Replies[1].Look = 30 }},
		{"Begun that does not rise", false, func(n *impl.Net) { n.Begun[0], n.Begun[1] = 7, 0 }},
		{"Begun twice", false, func(n *impl.Net) { n.Begun[2] = 31 }},
		{"Begun below 0", false, func(n *impl.Net) { n.Begun = append([]int{-1}, n.Begun...) }},
		{"Begun of 256", false, func(n *impl.Net) { n.Begun = append(n.Begun, 256) }},
		{"twelve begun", true, func(n *impl.Net) { n.Begun = []int{0, 7, 30, 31, 40, 41, 42, 43, 44, 45, 100, 255} }},
		{"thirteen begun", false, func(n *impl.Net) { n.Begun = []int{0, 7, 30, 31, 40, 41, 42, 43, 44, 45, 46, 100, 255} }},
		{"a reply of any numbers", true, func(n *impl.Net) {
			n.Replies[0] = impl.Reply{Look: 100, Key: -5, Owner: 1 << 40, Hops: -1}
		}},
	} {
		n := sixLooks()
		c.change(&n)
		if got := impl.GoodNet(n); got != c.want || got != modelGoodNet(n) {
			t.Error(c.name, "got", got)
		}
	}
}

func TestGoodNetOfMany(t *testing.T) {
	for _, p := range netPeers() {
		for _, n := range someNets(p) {
			if !modelGoodNet(n) || !impl.GoodNet(n) {
				t.Fatal("refused", netText(n))
			}
		}
	}
}

func checkBegin(t *testing.T, n impl.Net, look, id, key int) {
	t.Helper()
	next, ok := impl.BeginLook(n, look, id, key)
	if !modelCanBegin(n, look, id, key) {
		wantZeroNet(t, "BeginLook", next, ok)
		return
	}
	if !ok || !sameNet(next, modelBegin(n, look, id, key)) || !impl.GoodNet(next) {
		t.Fatal(netText(n), "begin", look, id, key, "got", netText(next), ok)
	}
}

func TestBeginLook(t *testing.T) {
	for _, p := range netPeers() {
		ids := modelMembers(p)
		for i, n := range someNets(p) {
			for j, look := range []int{0, 1, 2, 21, 22, 99, 100, 101, 231, 232, 254, 255} {
				key := []int{0, ids[0], powerOf2(p.Space.Bits) - 1, oneUp(p.Space, ids[len(ids)/2])}[(i+j)%4]
				checkBegin(t, n, look, ids[(i+j)%len(ids)], key)
			}
		}
	}
}

// All Ids and keys, of looks at both ends.
func TestBeginEachKey(t *testing.T) {
	for _, p := range []impl.Peers{threePeers(), modelIdeal(impl.Space{Bits: 4, Digit: 2}, []int{7}, 0), strayPeers(impl.Space{Bits: 6, Digit: 3}, []int{0, 9, 33, 63}, 4)} {
		n := strayNet(p, 4, 7, 5)
		for key := -1; key <= powerOf2(p.Space.Bits); key++ {
			for _, id := range append(modelMembers(p), noneOf(p.Space, modelMembers(p))...) {
				for _, look := range []int{0, 1, 254, 255} {
					checkBegin(t, n, look, id, key)
				}
			}
		}
	}
}

// One look behind the other up to MaxBag, falling, so that each comes in
// front of Begun and behind the Bag.
func TestBeginUpToMaxBag(t *testing.T) {
	for _, p := range netPeers() {
		ids := modelMembers(p)
		n := modelNew(p, 6)
		for i := 0; i < 12; i++ {
			look := 255 - 23*i
			checkBegin(t, n, look, ids[i%len(ids)], 0)
			n, _ = impl.BeginLook(n, look, ids[i%len(ids)], 0)
			if len(n.Bag) != i+1 || n.Bag[i].Look != look || n.Begun[0] != look {
				t.Fatal(netText(n))
			}
		}
		for _, look := range []int{0, 1, 3, 100, 255} {
			checkBegin(t, n, look, ids[0], 0)
		}
		// Where all were lost there is no room either.
		for len(n.Bag) > 0 {
			n, _ = impl.LoseMsg(n, 0)
		}
		checkBegin(t, n, 0, ids[0], 0)
	}
}

// One message handed over, by hand: in ideal peers at 2, 5 and 11, which point
// at 2, 5 and 5.
var handedOver = []struct {
	name  string
	ttl   int
	m     impl.Msg
	want  impl.Msg
	reply impl.Reply
}{
	{"found at the peer itself", 9, impl.Msg{Kind: 1, To: 5, From: 11, Key: 5, Imag: 3, Left: 2, Hops: 4},
		impl.Msg{Kind: 2, To: 11, From: 5, Key: 5, Imag: 5, Hops: 4}, impl.Reply{}},
	{"found at its Succ", 9, impl.Msg{Kind: 1, To: 5, From: 2, Key: 6, Imag: 3, Left: 2, Hops: 4},
		impl.Msg{Kind: 2, To: 2, From: 5, Key: 6, Imag: 11, Hops: 4}, impl.Reply{}},
	{"found past 0", 9, impl.Msg{Kind: 1, To: 11, From: 11, Key: 1, Hops: 0},
		impl.Msg{Kind: 2, To: 11, From: 11, Key: 1, Imag: 2}, impl.Reply{}},
	{"found by Hops that are spent", 3, impl.Msg{Kind: 1, To: 5, From: 2, Key: 11, Hops: 999},
		impl.Msg{Kind: 2, To: 2, From: 5, Key: 11, Imag: 11, Hops: 999}, impl.Reply{}},
	{"found with a Ttl of 0", 0, impl.Msg{Kind: 1, To: 2, From: 2, Key: 5}, impl.Msg{Kind: 2, To: 2, From: 2, Key: 5, Imag: 5}, impl.Reply{}},
	{"spent", 3, impl.Msg{Kind: 1, To: 5, From: 2, Key: 12, Imag: 6, Left: 1, Hops: 3},
		impl.Msg{Kind: 3, To: 2, From: 5, Key: 12, Hops: 3}, impl.Reply{}},
	{"spent long ago", 3, impl.Msg{Kind: 1, To: 5, From: 2, Key: 12, Imag: 6, Left: 1, Hops: 999},
		impl.Msg{Kind: 3, To: 2, From: 5, Key: 12, Hops: 999}, impl.Reply{}},
	{"spent with a Ttl of 0", 0, impl.Msg{Kind: 1, To: 5, From: 5, Key: 2, Imag: 5, Left: 4},
		impl.Msg{Kind: 3, To: 5, From: 5, Key: 2}, impl.Reply{}},
	{"on by the Point, Imag between", 4, impl.Msg{Kind: 1, To: 5, From: 2, Key: 13, Imag: 6, Left: 1, Hops: 3},
		impl.Msg{Kind: 1, To: 5, From: 2, Key: 13, Imag: 13, Hops: 4}, impl.Reply{}},
	{"on by the Point, Imag at it", 4, impl.Msg{Kind: 1, To: 11, From: 2, Key: 6, Imag: 11, Left: 3, Hops: 0},
		impl.Msg{Kind: 1, To: 5, From: 2, Key: 6, Imag: 7, Left: 2, Hops: 1}, impl.Reply{}},
	{"on by the Succ, Imag at it", 4, impl.Msg{Kind: 1, To: 5, From: 2, Key: 12, Imag: 11, Left: 1, Hops: 3},
		impl.Msg{Kind: 1, To: 11, From: 2, Key: 12, Imag: 11, Left: 1, Hops: 4}, impl.Reply{}},
	{"on by the Succ, nothing left", 4, impl.Msg{Kind: 1, To: 5, From: 11, Key: 12, Imag: 5, Hops: 3},
		impl.Msg{Kind: 1, To: 11, From: 11, Key: 12, Imag: 5, Hops: 4}, impl.Reply{}},
	{"up to Hops of 1000 by the Point", 1000, impl.Msg{Kind: 1, To: 5, From: 2, Key: 12, Imag: 6, Left: 1, Hops: 999},
		impl.Msg{Kind: 1, To: 5, From: 2, Key: 12, Imag: 12, Hops: 1000}, impl.Reply{}},
	{"up to Hops of 1000 by the Succ", 1000, impl.Msg{Kind: 1, To: 5, From: 2, Key: 12, Imag: 6, Hops: 999},
		impl.Msg{Kind: 1, To: 11, From: 2, Key: 12, Imag: 6, Hops: 1000}, impl.Reply{}},
	{"found at the peer itself with Hops of 1000", 1000, impl.Msg{Kind: 1, To: 5, From: 2, Key: 5, Imag: 3, Left: 2, Hops: 1000},
		impl.Msg{Kind: 2, To: 2, From: 5, Key: 5, Imag: 5, Hops: 1000}, impl.Reply{}},
	{"found at its Succ with Hops of 1000", 0, impl.Msg{Kind: 1, To: 11, From: 5, Key: 0, Imag: 11, Left: 4, Hops: 1000},
		impl.Msg{Kind: 2, To: 5, From: 11, Key: 0, Imag: 2, Hops: 1000}, impl.Reply{}},
	{"spent with Hops of 1000, ahead of the Point", 1000, impl.Msg{Kind: 1, To: 5, From: 2, Key: 12, Imag: 6, Left: 1, Hops: 1000},
		impl.Msg{Kind: 3, To: 2, From: 5, Key: 12, Hops: 1000}, impl.Reply{}},
	{"spent with Hops of 1000, ahead of the Succ", 1000, impl.Msg{Kind: 1, To: 5, From: 5, Key: 4, Imag: 12, Hops: 1000},
		impl.Msg{Kind: 3, To: 5, From: 5, Key: 4, Hops: 1000}, impl.Reply{}},
	{"spent with Hops of 1000 and a Ttl of 0", 0, impl.Msg{Kind: 1, To: 2, From: 11, Key: 6, Imag: 2, Left: 4, Hops: 1000},
		impl.Msg{Kind: 3, To: 11, From: 2, Key: 6, Hops: 1000}, impl.Reply{}},
	{"a reply that is found", 9, impl.Msg{Kind: 2, To: 11, From: 5, Key: 8, Imag: 11, Hops: 2},
		impl.Msg{}, impl.Reply{Key: 8, Owner: 11, Hops: 2, Found: true}},
	{"a reply that is found at 0", 9, impl.Msg{Kind: 2, To: 2, From: 2},
		impl.Msg{}, impl.Reply{Found: true}},
	{"a reply of Hops of 1000", 0, impl.Msg{Kind: 2, To: 2, From: 2, Key: 15, Imag: 15, Hops: 1000},
		impl.Msg{}, impl.Reply{Key: 15, Owner: 15, Hops: 1000, Found: true}},
	{"a reply that is spent", 9, impl.Msg{Kind: 3, To: 11, From: 5, Key: 8, Hops: 9},
		impl.Msg{}, impl.Reply{Key: 8, Hops: 9}},
	{"a reply that is spent of Hops of 1000", 9, impl.Msg{Kind: 3, To: 11, From: 11, Hops: 1000},
		impl.Msg{}, impl.Reply{Hops: 1000}},
}

func TestHandOverByHand(t *testing.T) {
	for _, c := range handedOver {
		for look := 0; look <= 255; look += 51 {
			n, want := modelNew(threePeers(), c.ttl), modelNew(threePeers(), c.ttl)
			m, next, reply := c.m, c.want, c.reply
			m.Look, next.Look, reply.Look = look, look, look
			n.Begun, want.Begun = []int{look}, []int{look}
			n.Bag = []impl.Msg{m}
			if next.Kind != 0 {
				want.Bag = []impl.Msg{next}
			} else {
				want.Replies = []impl.Reply{reply}
			}
			if got, ok := impl.HandOver(n, 0); !ok || !sameNet(got, want) {
				t.Error(c.name, "got", netText(got), ok, "want", netText(want))
			}
			checkMoves(t, n)
		}
	}
}

// checkMoves hands over and loses each message of a net.
func checkMoves(t *testing.T, n impl.Net) {
	t.Helper()
	for k := range n.Bag {
		next, ok := impl.HandOver(n, k)
		if !ok || !sameNet(next, modelHand(n, k)) || !impl.GoodNet(next) {
			t.Fatal(netText(n), "hand", k, "got", netText(next), ok)
		}
		next, ok = impl.LoseMsg(n, k)
		if !ok || !sameNet(next, modelTake(n, k)) || !impl.GoodNet(next) {
			t.Fatal(netText(n), "lose", k, "got", netText(next), ok)
		}
	}
	l, ok := impl.OpenLooks(n)
	if !ok || !sameList(l, modelOpen(n)) {
		t.Fatal(netText(n), "open", l, ok)
	}
	l, ok = impl.LostLooks(n)
	if !ok || !sameList(l, modelLost(n)) {
		t.Fatal(netText(n), "lost", l, ok)
	}
}

func TestMovesOfNets(t *testing.T) {
	for _, p := range netPeers() {
		for _, n := range someNets(p) {
			checkMoves(t, n)
		}
	}
	checkMoves(t, sixLooks())
}

// A walk of Hops of 1000 has as many forwards as any Ttl at least: it is found
// where the peer knows the owner, and else spent, whatever it still has Left.
func TestHandOverOfHopsOf1000(t *testing.T) {
	for _, p := range netPeers() {
		ids := modelMembers(p)
		for i, peer := range p.List {
			from := ids[(i*3+1)%len(ids)]
			for _, key := range []int{peer.Id, peer.Succ, oneDown(p.Space, peer.Succ), oneUp(p.Space, peer.Succ), oneUp(p.Space, peer.Id), oneDown(p.Space, peer.Id)} {
				want := impl.Msg{Kind: 3, Look: 2, To: from, From: peer.Id, Key: key, Hops: 1000}
				if key == peer.Id || modelInArc(p.Space, peer.Id, key, peer.Succ) {
					want.Kind, want.Imag = 2, modelOwner(p.Space, ids, key)
				}
				for _, ttl := range []int{0, 1, 999, 1000} {
					n := modelNew(p, ttl)
					n.Begun = []int{1, 2, 3}
					n.Bag = []impl.Msg{{Kind: 2, Look: 1, To: peer.Id, From: from, Hops: 1000},
						{Kind: 1, Look: 2, To: peer.Id, From: from, Key: key, Imag: peer.Id, Left: p.Space.Bits / p.Space.Digit, Hops: 1000},
						{Kind: 3, Look: 3, To: peer.Id, From: from, Hops: 1000}}
					next, ok := impl.HandOver(n, 1)
					if !ok || len(next.Bag) != 3 || !impl.SameMsg(next.Bag[2], want) {
						t.Fatal(netText(n), "got", netText(next), ok, "want", msgText(want))
					}
					checkMoves(t, n)
				}
			}
		}
	}
}

// What goes comes behind all others, and these stay in their order.
func TestMovesKeepTheOthers(t *testing.T) {
	n := sixLooks()
	first, _ := impl.HandOver(n, 0)
	if len(first.Bag) != 2 || first.Bag[0].Look != 7 || first.Bag[1].Look != 31 || len(first.Replies) != 3 || first.Replies[2].Look != 255 {
		t.Error("the first one", netText(first))
	}
	mid, _ := impl.HandOver(n, 1)
	if len(mid.Bag) != 3 || mid.Bag[0].Look != 255 || mid.Bag[1].Look != 31 || mid.Bag[2].Look != 7 {
		t.Error("the one between", netText(mid))
	}
	last, _ := impl.HandOver(n, 2)
	if len(last.Bag) != 2 || last.Bag[0].Look != 255 || last.Bag[1].Look != 7 || last.Replies[2] != (impl.Reply{Look: 31, Key: 8, Owner: 11, Hops: 2, Found: true}) {
		t.Error("the last one", netText(last))
	}
	lost, _ := impl.LoseMsg(n, 2)
	if len(lost.Bag) != 2 || lost.Bag[1].Look != 7 || len(lost.Replies) != 2 || len(lost.Begun) != 6 {
		t.Error("the last one lost", netText(lost))
	}
}

func TestOpenAndLostLooks(t *testing.T) {
	n := sixLooks()
	for _, c := range []struct {
		name       string
		change     func(n *impl.Net)
		open, lost []int
	}{
		{"as it is", func(n *impl.Net) {}, []int{7, 31, 255}, []int{30}},
		{"no messages", func(n *impl.Net) { n.Bag = nil }, nil, []int{7, 30, 31, 255}},
		{"no replies", func(n *impl.Net) { n.Replies = nil }, []int{7, 31, 255}, []int{0, 30, 100}},
		{"neither", func(n *impl.Net) { n.Bag, n.Replies = nil, nil }, nil, []int{0, 7, 30, 31, 100, 255}},
		{"nothing begun", func(n *impl.Net) { n.Bag, n.Replies, n.Begun = nil, nil, nil }, nil, nil},
		{"none lost", func(n *impl.Net) { n.Begun = []int{0, 7, 31, 100, 255} }, []int{7, 31, 255}, nil},
		{"a message at 0", func(n *impl.Net) { n.Bag[2].Look, n.Replies[1].Look = 0, 31 }, []int{0, 7, 255}, []int{30}},
	} {
		given := cloneNet(n)
		c.change(&given)
		open, ok := impl.OpenLooks(given)
		lost, too := impl.LostLooks(given)
		if !sameList(open, c.open) || !sameList(lost, c.lost) || !ok || !too {
			t.Error(c.name, "got", open, ok, lost, too)
		}
	}
}
