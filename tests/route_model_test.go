package tests

import (
	"math"
	"strconv"

	"loop.example/g00749/impl"
)

// What chapter 4 says, worked out the slow way: the best number by asking each
// one of the arc, steps by going round number by number, ways step by step.

func modelImag(s impl.Space, from, to, key int) (imag, left int) {
	most := -1
	for x := from; ; {
		if n := modelOverlap(s, x, key); n > most {
			imag, most = x, n
		}
		if x = oneUp(s, x); x == to || x == from {
			return imag, s.Bits/s.Digit - most
		}
	}
}

func modelPeer(p impl.Peers, id int) impl.Peer {
	for _, peer := range p.List {
		if peer.Id == id {
			return peer
		}
	}
	return impl.Peer{Id: -1}
}

func modelStart(p impl.Peers, id, key int) impl.Walk {
	imag, left := modelImag(p.Space, id, modelPeer(p, id).Succ, key)
	return impl.Walk{At: id, Imag: imag, Left: left}
}

func modelGoodWalk(p impl.Peers, key int, w impl.Walk) bool {
	if !modelGoodPeers(p) || key < 0 || key >= powerOf2(p.Space.Bits) {
		return false
	}
	ids := modelMembers(p)
	is := contains(ids, w.At) && w.Imag >= 0 && w.Imag < powerOf2(p.Space.Bits)
	is = is && w.Left >= 0 && w.Left <= p.Space.Bits/p.Space.Digit
	is = is && w.Points >= 0 && w.Points <= 1000 && w.Succs >= 0 && w.Succs <= 1000
	if w.State == 1 {
		return is && contains(ids, w.Owner)
	}
	return is && w.Owner == 0 && (w.State == 0 || w.State == 2)
}

func modelCanStep(p impl.Peers, key, ttl int, w impl.Walk) bool {
	return modelGoodWalk(p, key, w) && w.State == 0 && w.Points < 1000 && w.Succs < 1000 && ttl >= 0 && ttl <= 1000
}

func modelStep(p impl.Peers, key, ttl int, w impl.Walk) impl.Walk {
	peer := modelPeer(p, w.At)
	next := w
	if key == w.At {
		next.State, next.Owner = 1, w.At
		return next
	}
	if modelInArc(p.Space, w.At, key, peer.Succ) {
		next.State, next.Owner = 1, peer.Succ
		return next
	}
	if w.Points+w.Succs >= ttl {
		next.State = 2
		return next
	}
	if w.Left > 0 && (w.Imag == w.At || modelBetween(p.Space, w.At, w.Imag, peer.Succ)) {
		digits := modelDigits(p.Space, key)
		next.At = peer.Point
		next.Imag = modelShift(p.Space, w.Imag, digits[len(digits)-w.Left])
		next.Left = w.Left - 1
		next.Points = w.Points + 1
		return next
	}
	next.At = peer.Succ
	next.Succs = w.Succs + 1
	return next
}

func modelRoute(p impl.Peers, id, key, ttl int) (impl.Walk, []int) {
	w := modelStart(p, id, key)
	path := []int{id}
	for {
		if w = modelStep(p, key, ttl, w); w.State != 0 {
			return w, path
		}
		path = append(path, w.At)
	}
}

// modelMostPoints is what StartLeft tells of a member: all digits but as many
// as have no more ends than its gap has numbers.
func modelMostPoints(s impl.Space, m []int, x int) int {
	digits, n := s.Bits/s.Digit, 0
	for n < digits && powerOf2(s.Digit*(n+1)) <= modelGap(s, m, x) {
		n++
	}
	return digits - n
}

// everyPointing has the peers of a ring with every choice of pointers.
func everyPointing(s impl.Space, m []int) []impl.Peers {
	var l []impl.Peers
	for _, points := range listsOf(m, len(m)) {
		p := modelIdeal(s, m, 0)
		for i := range p.List {
			p.List[i].Point = points[i]
		}
		l = append(l, p)
	}
	return l
}

// samePoint has peers of which all point at the same one, or each at itself.
func samePoint(s impl.Space, m []int) []impl.Peers {
	first, last, own := modelIdeal(s, m, 0), modelIdeal(s, m, 1), modelIdeal(s, m, 2)
	for i := range m {
		first.List[i].Point, last.List[i].Point, own.List[i].Point = m[0], m[len(m)-1], m[i]
	}
	return []impl.Peers{first, last, own}
}

// routePeersOf has good peers of a ring, ideal ones first.
func routePeersOf(s impl.Space, m []int) []impl.Peers {
	l := []impl.Peers{modelIdeal(s, m, 0), strayPeers(s, m, 1), strayPeers(s, m, 77+len(m))}
	return append(l, samePoint(s, m)...)
}

// routeKeys has keys to look for: all numbers of a small space, else some, and
// those at, below and above a few members.
func routeKeys(s impl.Space, m []int) []int {
	size := powerOf2(s.Bits)
	if size <= 16 {
		return someNumbers(s)
	}
	keys := []int{0, 1, size/2 - 1, size / 2, size - 1, 0b101101 % size}
	for _, x := range []int{m[0], m[len(m)/2], m[len(m)-1]} {
		keys = append(keys, oneDown(s, x), x, oneUp(s, x))
	}
	return keys
}

// wrongTtls has numbers that are neither a ttl nor how many forwards a walk
// may have had.
func wrongTtls() []int {
	return []int{-1, -2, -1000, 1001, 1002, 2000, 1 << 32, math.MaxInt, math.MinInt}
}

// wrongWalks has walks that miss being good by one thing each.
func wrongWalks(p impl.Peers, key int) []impl.Walk {
	s, ids := p.Space, modelMembers(p)
	id := ids[len(ids)/2]
	good := impl.Walk{At: id, Imag: key, Left: 1, Points: 2, Succs: 3}
	var wrong []impl.Walk
	add := func(change func(w *impl.Walk)) {
		w := good
		change(&w)
		wrong = append(wrong, w)
	}
	for _, x := range noneOf(s, ids) {
		add(func(w *impl.Walk) { w.At = x })
		add(func(w *impl.Walk) { w.State, w.Owner = 1, x })
	}
	for _, x := range wrongNumbers(s) {
		add(func(w *impl.Walk) { w.Imag = x })
	}
	for _, x := range []int{-1, -5, s.Bits/s.Digit + 1, s.Bits + 1, 1 << 32, math.MaxInt, math.MinInt} {
		add(func(w *impl.Walk) { w.Left = x })
	}
	for _, x := range wrongTtls() {
		add(func(w *impl.Walk) { w.Points = x })
		add(func(w *impl.Walk) { w.Succs = x })
	}
	for _, x := range []int{-1, 3, 4, 1 << 32, math.MaxInt, math.MinInt} {
		add(func(w *impl.Walk) { w.State = x })
		add(func(w *impl.Walk) { w.State, w.Owner = x, id })
	}
	for _, x := range append(noneOf(s, ids), ids...) {
		if x != 0 {
			add(func(w *impl.Walk) { w.Owner = x })
			add(func(w *impl.Walk) { w.State, w.Owner = 2, x })
		}
	}
	return wrong
}

func walkText(w impl.Walk) string {
	return "walk " + numbersText([]int{w.At, w.Imag, w.Left, w.Points, w.Succs, w.State, w.Owner})
}

func answerText(ok bool) string {
	return strconv.FormatBool(ok) + " "
}
