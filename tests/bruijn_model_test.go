package tests

import (
	"math"
	"strconv"
	"strings"

	"loop.example/g00749/impl"
)

// What chapter 3 says, worked out the slow way: by going down number by number
// and by asking each number whether it is a member.

func modelPoint(s impl.Space, m []int, x int) int {
	y := modelShift(s, x, 0)
	for !contains(m, y) {
		y = oneDown(s, y)
	}
	return y
}

func modelIdeal(s impl.Space, m []int, backs int) impl.Peers {
	p := impl.Peers{Space: s}
	for _, id := range m {
		peer := impl.Peer{Id: id, Succ: modelNext(s, m, id), Point: modelPoint(s, m, id)}
		for at := peer.Point; len(peer.Backs) < backs; {
			at = modelPrev(s, m, at)
			peer.Backs = append(peer.Backs, at)
		}
		p.List = append(p.List, peer)
	}
	return p
}

func modelMembers(p impl.Peers) []int {
	var ids []int
	for _, peer := range p.List {
		ids = append(ids, peer.Id)
	}
	return ids
}

func modelGoodPeers(p impl.Peers) bool {
	ids := modelMembers(p)
	if !modelGoodRing(p.Space, ids) {
		return false
	}
	for _, peer := range p.List {
		known := append([]int{peer.Point}, peer.Backs...)
		if len(known) > 4 || peer.Succ != modelNext(p.Space, ids, peer.Id) {
			return false
		}
		for _, x := range known {
			if !contains(ids, x) {
				return false
			}
		}
	}
	return true
}

func modelIsIdeal(p impl.Peers) bool {
	return samePeers(p, modelIdeal(p.Space, modelMembers(p), len(p.List[0].Backs)))
}

func modelSet(p impl.Peers, id, point int, backs []int) impl.Peers {
	set := clonePeers(p)
	for i := range set.List {
		if set.List[i].Id == id {
			set.List[i].Point = point
			set.List[i].Backs = append([]int(nil), backs...)
		}
	}
	return set
}

func modelCrowd(s impl.Space, m []int) int {
	most := 0
	for _, x := range m {
		if modelGap(s, m, x)*powerOf2(s.Digit) > powerOf2(s.Bits) {
			continue
		}
		from, to := modelShift(s, x, 0), modelShift(s, modelNext(s, m, x), 0)
		crowd := 0
		// Where both are the same that is once round.
		for y := oneUp(s, from); y != to; y = oneUp(s, y) {
			if contains(m, y) {
				crowd++
			}
		}
		if crowd > most {
			most = crowd
		}
	}
	return most
}

func samePeers(a, b impl.Peers) bool {
	return peersText(a) == peersText(b)
}

func peersText(p impl.Peers) string {
	var text strings.Builder
	text.WriteString(numbersText([]int{p.Space.Bits, p.Space.Digit}))
	for _, peer := range p.List {
		text.WriteString(";" + numbersText([]int{peer.Id, peer.Succ, peer.Point}) + ":" + numbersText(peer.Backs))
	}
	return text.String()
}

func numbersText(l []int) string {
	var text strings.Builder
	for _, x := range l {
		text.WriteString(strconv.Itoa(x) + ",")
	}
	return text.String()
}

func clonePeers(p impl.Peers) impl.Peers {
	c := impl.Peers{Space: p.Space, List: append([]impl.Peer(nil), p.List...)}
	for i := range c.List {
		c.List[i].Backs = append([]int(nil), c.List[i].Backs...)
	}
	return c
}

// strayPeers has good peers of a ring whose pointers and backs stand anywhere,
// as a seed has it, with 0 up to 3 Backs each.
func strayPeers(s impl.Space, m []int, seed int) impl.Peers {
	p := modelIdeal(s, m, 0)
	for i := range p.List {
		seed = (seed*1103515245 + 12345) % (1 << 31)
		pick := seed / 7
		p.List[i].Point = m[pick%len(m)]
		for k := 0; k < pick/3%4; k++ {
			p.List[i].Backs = append(p.List[i].Backs, m[(pick/11+k*k*5)%len(m)])
		}
	}
	return p
}

// goodPeersOf has peers of a ring that are ideal with every number of Backs,
// and some that are not.
func goodPeersOf(s impl.Space, m []int) []impl.Peers {
	var l []impl.Peers
	for backs := 0; backs <= 3; backs++ {
		l = append(l, modelIdeal(s, m, backs), strayPeers(s, m, backs+len(m)))
	}
	return l
}

// noneOf has numbers that are no members: of the space, and outside it.
func noneOf(s impl.Space, m []int) []int {
	l := wrongNumbers(s)
	for _, x := range numbersNear(s, m) {
		if !contains(m, x) {
			l = append(l, x)
		}
	}
	return l
}

// changed is a copy of peers with a change made to it.
func changed(p impl.Peers, change func(p *impl.Peers)) impl.Peers {
	c := clonePeers(p)
	change(&c)
	return c
}

// wrongPeers has peers that miss being good by one thing each.
func wrongPeers(s impl.Space, m []int) []impl.Peers {
	var wrong []impl.Peers
	good := modelIdeal(s, m, 2)
	none := noneOf(s, m)
	for at := range m {
		for _, x := range none {
			wrong = append(wrong,
				changed(good, func(p *impl.Peers) { p.List[at].Succ = x }),
				changed(good, func(p *impl.Peers) { p.List[at].Point = x }),
				changed(good, func(p *impl.Peers) { p.List[at].Backs[0] = x }),
				changed(good, func(p *impl.Peers) { p.List[at].Backs[1] = x }),
				changed(good, func(p *impl.Peers) { p.List[at].Backs = append(p.List[at].Backs, x) }))
		}
		for _, x := range m {
			if x != good.List[at].Succ {
				wrong = append(wrong, changed(good, func(p *impl.Peers) { p.List[at].Succ = x }))
			}
		}
		for _, many := range []int{4, 5, 1000} {
			wrong = append(wrong, changed(good, func(p *impl.Peers) {
				for len(p.List[at].Backs) < many {
					p.List[at].Backs = append(p.List[at].Backs, m[0])
				}
			}))
		}
	}
	return append(wrong, wrongIds(s, m)...)
}

// wrongIds has peers whose Ids do not rise, or lie outside the space, while
// all of them know those Ids alone.
func wrongIds(s impl.Space, m []int) []impl.Peers {
	var wrong []impl.Peers
	for _, x := range wrongNumbers(s) {
		for at := range m {
			ids := append([]int(nil), m...)
			ids[at] = x
			wrong = append(wrong, peersByPlace(s, ids))
		}
		wrong = append(wrong, peersByPlace(s, append([]int{x}, m...)), peersByPlace(s, append(m[:len(m):len(m)], x)))
	}
	for at := range m {
		twice := append(append([]int(nil), m[:at+1]...), m[at:]...)
		wrong = append(wrong, peersByPlace(s, twice))
		if at > 0 {
			swapped := append([]int(nil), m...)
			swapped[at-1], swapped[at] = swapped[at], swapped[at-1]
			wrong = append(wrong, peersByPlace(s, swapped))
		}
	}
	return wrong
}

// peersByPlace has each Id with the one behind it in the list as Succ, the
// first one behind the last, and itself as Point and in Backs.
func peersByPlace(s impl.Space, ids []int) impl.Peers {
	p := impl.Peers{Space: s}
	for i, id := range ids {
		p.List = append(p.List, impl.Peer{Id: id, Succ: ids[(i+1)%len(ids)], Point: id, Backs: []int{id}})
	}
	return p
}

// peersOfAnyKind has peers that are wrong whatever the ring.
func peersOfAnyKind() []impl.Peers {
	l := []impl.Peers{{}, {List: []impl.Peer{{}}}}
	for _, s := range []impl.Space{{Bits: 12, Digit: 1}, {Bits: 4, Digit: 2}, {Bits: 1, Digit: 1}} {
		l = append(l, impl.Peers{Space: s}, impl.Peers{Space: s, List: []impl.Peer{}})
		l = append(l, impl.Peers{Space: s, List: make([]impl.Peer, 17)}, impl.Peers{Space: s, List: make([]impl.Peer, 100000)})
		l = append(l, impl.Peers{Space: s, List: []impl.Peer{{Id: math.MinInt, Succ: math.MinInt, Point: math.MinInt}}})
		l = append(l, impl.Peers{Space: s, List: []impl.Peer{{Backs: make([]int, 100000)}}})
	}
	for _, many := range []int{17, 18, 1000} {
		rising := make([]int, many)
		for i := range rising {
			rising[i] = i
		}
		l = append(l, peersByPlace(impl.Space{Bits: 12, Digit: 3}, rising))
	}
	for _, s := range wrongSpaces() {
		l = append(l, impl.Peers{Space: s}, peersByPlace(s, []int{0}), peersByPlace(s, []int{0, 1}), peersByPlace(s, []int{0, 1, 2}))
	}
	return l
}
