package tests

import (
	"sort"
	"strings"

	"loop.example/g00749/impl"
)

// What chapter 6 says, worked out two other ways: what becomes of one message
// by the words of chapter 4, and of a whole play look by look, since no look
// hangs on the others: each one goes through its own row of messages, and only
// where these lie in the Bag is up to the picks.

func modelGoodNet(n impl.Net) bool {
	is := modelGoodPeers(n.Peers) && n.Ttl >= 0 && n.Ttl <= 1000 && len(n.Bag) <= 12 && len(n.Begun) <= 12
	if !is {
		return false
	}
	for i, look := range n.Begun {
		is = is && look >= 0 && look <= 255 && (i == 0 || n.Begun[i-1] < look)
	}
	places, ids := map[int]int{}, modelMembers(n.Peers)
	for _, m := range n.Bag {
		is = is && modelGoodMsg(n.Peers.Space, m) && contains([]int{1, 2, 3}, m.Kind)
		is = is && contains(ids, m.To) && contains(ids, m.From)
		places[m.Look]++
	}
	for _, r := range n.Replies {
		places[r.Look]++
	}
	for look, many := range places {
		is = is && many == 1 && contains(n.Begun, look)
	}
	return is
}

func modelNew(p impl.Peers, ttl int) impl.Net {
	return impl.Net{Peers: clonePeers(p), Ttl: ttl}
}

func modelCanBegin(n impl.Net, look, id, key int) bool {
	is := modelGoodNet(n) && look >= 0 && look <= 255 && !contains(n.Begun, look) && len(n.Begun) < 12
	return is && contains(modelMembers(n.Peers), id) && key >= 0 && key < powerOf2(n.Peers.Space.Bits)
}

func modelBegin(n impl.Net, look, id, key int) impl.Net {
	c := cloneNet(n)
	c.Begun = append(c.Begun, look)
	sort.Ints(c.Begun)
	c.Bag = append(c.Bag, modelFirst(c.Peers, look, id, key))
	return c
}

func modelFirst(p impl.Peers, look, id, key int) impl.Msg {
	w := modelStart(p, id, key)
	return impl.Msg{Kind: 1, Look: look, To: id, From: id, Key: key, Imag: w.Imag, Left: w.Left}
}

// modelTake is a net without a message of its Bag.
func modelTake(n impl.Net, k int) impl.Net {
	c := cloneNet(n)
	c.Bag = append(c.Bag[:k:k], c.Bag[k+1:]...)
	return c
}

func modelWalkOf(m impl.Msg) impl.Walk {
	return impl.Walk{At: m.To, Imag: m.Imag, Left: m.Left, Succs: m.Hops}
}

func modelHand(n impl.Net, k int) impl.Net {
	m, c := n.Bag[k], modelTake(n, k)
	if m.Kind != 1 {
		r := impl.Reply{Look: m.Look, Key: m.Key, Hops: m.Hops}
		if m.Kind == 2 {
			r.Owner, r.Found = m.Imag, true
		}
		c.Replies = append(c.Replies, r)
		return c
	}
	w := modelStep(n.Peers, m.Key, n.Ttl, modelWalkOf(m))
	next := impl.Msg{Look: m.Look, Key: m.Key, Hops: m.Hops}
	switch w.State {
	case 0:
		next.Kind, next.To, next.From = 1, w.At, m.From
		next.Imag, next.Left, next.Hops = w.Imag, w.Left, m.Hops+1
	case 1:
		next.Kind, next.To, next.From, next.Imag = 2, m.From, m.To, w.Owner
	case 2:
		next.Kind, next.To, next.From = 3, m.From, m.To
	}
	c.Bag = append(c.Bag, next)
	return c
}

// A lookRow has all messages of a look, one behind the other, and the reply in
// the end.
type lookRow struct {
	msgs  []impl.Msg
	reply impl.Reply
}

func modelRow(p impl.Peers, ttl, look, id, key int) lookRow {
	w := modelStart(p, id, key)
	row := lookRow{msgs: []impl.Msg{modelFirst(p, look, id, key)}}
	for {
		if w = modelStep(p, key, ttl, w); w.State != 0 {
			break
		}
		row.msgs = append(row.msgs, impl.Msg{Kind: 1, Look: look, To: w.At, From: id, Key: key, Imag: w.Imag, Left: w.Left, Hops: w.Points + w.Succs})
	}
	hops := w.Points + w.Succs
	last := impl.Msg{Kind: 1 + w.State, Look: look, To: id, From: w.At, Key: key, Imag: w.Owner, Hops: hops}
	row.msgs = append(row.msgs, last)
	row.reply = impl.Reply{Look: look, Key: key, Owner: w.Owner, Hops: hops, Found: w.State == 1}
	return row
}

// A netPlay has what was asked, and the row of each look.
type netPlay struct {
	peers impl.Peers
	ttl   int
	asks  [][]int
	rows  map[int]lookRow
}

func playOf(p impl.Peers, ttl int, asks [][]int) netPlay {
	play := netPlay{peers: p, ttl: ttl, asks: asks, rows: map[int]lookRow{}}
	for _, ask := range asks {
		play.rows[ask[0]] = modelRow(p, ttl, ask[0], ask[1], ask[2])
	}
	return play
}

// turnsToEnd is how many messages there are to hand over in all.
func (play netPlay) turnsToEnd() int {
	turns := 0
	for _, row := range play.rows {
		turns += len(row.msgs)
	}
	return turns
}

// netAfter only moves looks about: the one that is handed over comes behind
// all others, up to the end of its row.
func (play netPlay) netAfter(picks []int) impl.Net {
	n := modelNew(play.peers, play.ttl)
	came := map[int]int{}
	var bag []int
	for _, ask := range play.asks {
		bag = append(bag, ask[0])
	}
	n.Begun = append(n.Begun, bag...)
	sort.Ints(n.Begun)
	for i := 0; i < len(picks) && len(bag) > 0; i++ {
		k := picks[i] % len(bag)
		look := bag[k]
		bag = append(bag[:k:k], bag[k+1:]...)
		if picks[i] >= 500 {
			continue
		}
		if came[look]++; came[look] < len(play.rows[look].msgs) {
			bag = append(bag, look)
		} else {
			n.Replies = append(n.Replies, play.rows[look].reply)
		}
	}
	for _, look := range bag {
		n.Bag = append(n.Bag, play.rows[look].msgs[came[look]])
	}
	return n
}

func modelOpen(n impl.Net) []int {
	var looks []int
	for look := 0; look <= 255; look++ {
		for _, m := range n.Bag {
			if m.Look == look {
				looks = append(looks, look)
			}
		}
	}
	return looks
}

func modelLost(n impl.Net) []int {
	known := modelOpen(n)
	for _, r := range n.Replies {
		known = append(known, r.Look)
	}
	var looks []int
	for _, look := range n.Begun {
		if !contains(known, look) {
			looks = append(looks, look)
		}
	}
	return looks
}

func replyText(r impl.Reply) string {
	return "reply " + numbersText([]int{r.Look, r.Key, r.Owner, r.Hops}) + answerText(r.Found)
}

func netText(n impl.Net) string {
	var text strings.Builder
	text.WriteString(peersText(n.Peers) + " ttl " + numbersText([]int{n.Ttl}))
	for _, m := range n.Bag {
		text.WriteString(msgText(m) + ";")
	}
	text.WriteString(" begun " + numbersText(n.Begun))
	for _, r := range n.Replies {
		text.WriteString(replyText(r))
	}
	return text.String()
}

func sameNet(a, b impl.Net) bool {
	return netText(a) == netText(b)
}

func cloneNet(n impl.Net) impl.Net {
	c := impl.Net{Peers: clonePeers(n.Peers), Ttl: n.Ttl}
	for _, m := range n.Bag {
		c.Bag = append(c.Bag, cloneMsg(m))
	}
	c.Begun = append(c.Begun, n.Begun...)
	c.Replies = append(c.Replies, n.Replies...)
	return c
}

// strayNet has a good net to which no play need ever come: each look in a
// message of any kind, in a reply, or in neither, as a seed has it.
func strayNet(p impl.Peers, ttl, looks, seed int) impl.Net {
	n, first := modelNew(p, ttl), seed
	next := func(below int) int {
		seed = (seed*1103515245 + 12345) % (1 << 31)
		return seed / 7 % below
	}
	ids, size := modelMembers(p), powerOf2(p.Space.Bits)
	for i := 0; i < looks; i++ {
		// From 0 on, or up to 255.
		look := 21 * i
		if first%2 == 1 {
			look = 255 - 23*(looks-1-i)
		}
		n.Begun = append(n.Begun, look)
		values := []int{next(size), next(size), next(p.Space.Bits/p.Space.Digit + 1), []int{0, 1, 7, ttl, 999, 1000}[next(6)]}
		switch kind := next(6); kind {
		case 0:
		case 4, 5:
			n.Replies = append(n.Replies, impl.Reply{Look: look, Key: values[0], Owner: ids[next(len(ids))], Hops: values[3], Found: kind == 4})
		default:
			m := withFields(kind, values, nil)
			m.Look, m.To, m.From = look, ids[next(len(ids))], ids[next(len(ids))]
			n.Bag = append(n.Bag, m)
		}
	}
	for k := len(n.Bag) - 1; k > 0; k-- {
		i := next(k + 1)
		n.Bag[k], n.Bag[i] = n.Bag[i], n.Bag[k]
	}
	return n
}

// fullNet has MaxBag looks that are all in messages, or all in replies.
func fullNet(p impl.Peers, ttl int, inBag bool) impl.Net {
	n := modelNew(p, ttl)
	ids := modelMembers(p)
	for i := 0; i < 12; i++ {
		look := 255 - 23*(11-i)
		n.Begun = append(n.Begun, look)
		m := modelFirst(p, look, ids[i%len(ids)], i%powerOf2(p.Space.Bits))
		if inBag {
			n.Bag = append([]impl.Msg{m}, n.Bag...)
		} else {
			n.Replies = append(n.Replies, impl.Reply{Look: look, Key: m.Key, Hops: i})
		}
	}
	return n
}

// someNets has good nets of peers: with nothing, with all there may be, and
// some that stand anyhow.
func someNets(p impl.Peers) []impl.Net {
	lost := modelNew(p, 3)
	lost.Begun = []int{0, 1, 2, 3, 100, 101, 127, 128, 200, 253, 254, 255}
	l := []impl.Net{modelNew(p, 0), modelNew(p, 1000), lost, fullNet(p, 5, true), fullNet(p, 1000, true), fullNet(p, 0, false)}
	for seed := 1; seed <= 12; seed++ {
		l = append(l, strayNet(p, []int{0, 1, 2, 5, 999, 1000}[seed%6], seed, seed*7919+p.Space.Bits))
	}
	return l
}

// netPeers has a few good peers, ideal and other ones, alone and more.
func netPeers() []impl.Peers {
	l := []impl.Peers{threePeers(), modelIdeal(impl.Space{Bits: 4, Digit: 2}, []int{7}, 0)}
	for _, s := range fewSpaces() {
		for i, m := range someFewRings(s) {
			of := routePeersOf(s, m)
			l = append(l, of[0], of[1+i%(len(of)-1)])
		}
	}
	return l
}

// wrongNets has nets that miss being good by one thing each. It takes peers of
// three members at least, of a space with more numbers than these.
func wrongNets(p impl.Peers) []impl.Net {
	s, ids := p.Space, modelMembers(p)
	good := modelNew(p, 7)
	good.Begun = []int{3, 5, 8, 9, 200}
	good.Bag = []impl.Msg{modelFirst(p, 200, ids[0], 1), {Kind: 2, Look: 3, To: ids[1], From: ids[0], Key: 1, Imag: ids[2], Hops: 4},
		{Kind: 3, Look: 8, To: ids[2], From: ids[1], Key: 0, Hops: 7}}
	good.Replies = []impl.Reply{{Look: 5, Key: 2, Owner: ids[1], Hops: 1, Found: true}, {Look: 9, Key: 1, Hops: 7}}
	wrong := []impl.Net{}
	add := func(change func(n *impl.Net)) {
		c := cloneNet(good)
		change(&c)
		wrong = append(wrong, c)
	}
	for _, ttl := range wrongTtls() {
		add(func(n *impl.Net) { n.Ttl = ttl })
	}
	for _, other := range append(wrongPeers(s, ids)[:40], wrongIds(s, ids)...) {
		add(func(n *impl.Net) { n.Peers = other })
	}
	add(func(n *impl.Net) { n.Peers = impl.Peers{} })
	add(func(n *impl.Net) { n.Peers.List = nil })
	for k := range good.Bag {
		for _, x := range noneOf(s, ids) {
			add(func(n *impl.Net) { n.Bag[k].To = x })
			add(func(n *impl.Net) { n.Bag[k].From = x })
		}
		for _, look := range []int{-1, 0, 4, 5, 9, 201, 255, 256, good.Bag[(k+1)%3].Look, 1<<32 + 3} {
			add(func(n *impl.Net) { n.Bag[k].Look = look })
		}
		for _, m := range wrongMsgs(s) {
			m.To, m.From = ids[0], ids[1]
			if m.Look == 9 && len(m.List) < 300 && !modelGoodMsg(s, m) {
				m.Look = good.Bag[k].Look
				add(func(n *impl.Net) { n.Bag[k] = m })
			}
		}
		for _, m := range oneOfEach(s)[3:] {
			m.Look, m.To, m.From = good.Bag[k].Look, ids[0], ids[1]
			add(func(n *impl.Net) { n.Bag[k] = m })
		}
	}
	return append(wrong, wrongLooks(good)...)
}

// wrongLooks has a good net with looks that are not as they must be. It has 3,
// 5, 8, 9 and 200 as Begun.
func wrongLooks(good impl.Net) []impl.Net {
	wrong := []impl.Net{}
	add := func(change func(n *impl.Net)) {
		c := cloneNet(good)
		change(&c)
		wrong = append(wrong, c)
	}
	for _, begun := range [][]int{
		nil, {3, 5, 8, 9}, {5, 8, 9, 200}, {3, 5, 9, 200}, {3, 5, 8, 200}, {3, 5, 8, 200, 9}, {5, 3, 8, 9, 200}, {3, 3, 5, 8, 9, 200},
		{3, 5, 8, 9, 200, 200}, {3, 5, 8, 9, 9, 200}, {-1, 3, 5, 8, 9, 200}, {3, 5, 8, 9, 200, 256}, {3, 5, 8, 9, 200, 1 << 40},
		{3, 5, 8, 9, 20, 21, 22, 23, 24, 25, 26, 27, 200}, {200, 9, 8, 5, 3}, {3, 5, 8, 9, 200, 0}, make([]int, 100000),
	} {
		add(func(n *impl.Net) { n.Begun = begun })
	}
	for i := range good.Replies {
		for _, look := range []int{-1, 0, 3, 4, 8, 200, 201, 256, good.Replies[1-i].Look, 1<<32 + 5} {
			add(func(n *impl.Net) { n.Replies[i].Look = look })
		}
	}
	for k := range good.Bag {
		add(func(n *impl.Net) { n.Bag = append(n.Bag, n.Bag[k]) })
	}
	for _, many := range []int{13, 14, 1000} {
		add(func(n *impl.Net) {
			n.Begun, n.Replies = nil, nil
			for i := 0; i < many; i++ {
				n.Bag = append(n.Bag, n.Bag[0])
				if i < 12 {
					n.Begun = append(n.Begun, i)
				}
			}
			n.Bag = n.Bag[3:]
			for i := range n.Bag {
				n.Bag[i].Look = i
			}
		})
	}
	add(func(n *impl.Net) { n.Replies = append(n.Replies, n.Replies[0]) })
	add(func(n *impl.Net) { n.Replies = append(n.Replies, impl.Reply{}) })
	add(func(n *impl.Net) { n.Replies = make([]impl.Reply, 100000) })
	add(func(n *impl.Net) { n.Bag = make([]impl.Msg, 100000) })
	return wrong
}
