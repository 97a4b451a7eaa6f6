package tests

import (
	"math"
	"runtime"
	"sync"
	"testing"
	"time"

	"loop.example/g00749/impl"
)

// Promise 18 for chapter 6: nothing written into nets, peers and lists that
// are handed in, answers that are new memory, and peers that are no more at
// work once there is an answer.

// netInMemory has a net in the midst of more memory: all of its lists, and the
// Lists of its messages.
type netInMemory struct {
	peers   peersInMemory
	bag     []impl.Msg
	lists   [][]int
	begun   []int
	replies []impl.Reply
	net     impl.Net
}

func layOutNet(n impl.Net, behind int) netInMemory {
	lay := netInMemory{peers: layOut(n.Peers, behind)}
	lay.bag = make([]impl.Msg, len(n.Bag)+4)
	lay.begun = make([]int, len(n.Begun)+4)
	lay.replies = make([]impl.Reply, len(n.Replies)+4)
	for i := range lay.bag {
		// A good message, if it were looked at, whose look is begun.
		lay.bag[i] = impl.Msg{Kind: 3, Look: behind, To: behind, From: behind}
	}
	for i := range lay.begun {
		lay.begun[i] = behind
	}
	for i := range lay.replies {
		lay.replies[i] = impl.Reply{Look: behind, Key: behind}
	}
	copy(lay.bag[2:], n.Bag)
	copy(lay.begun[2:], n.Begun)
	copy(lay.replies[2:], n.Replies)
	for i := range lay.bag {
		whole := []int{behind, behind, behind, behind}
		whole = append(whole, lay.bag[i].List...)
		whole = append(whole, behind, behind)
		lay.lists = append(lay.lists, whole)
		lay.bag[i].List = whole[4 : len(whole)-2]
	}
	lay.net = impl.Net{
		Peers: lay.peers.peers, Ttl: n.Ttl, Bag: lay.bag[2 : 2+len(n.Bag)],
		Begun: lay.begun[2 : 2+len(n.Begun)], Replies: lay.replies[2 : 2+len(n.Replies)],
	}
	return lay
}

// text tells all of it, what lies behind each length too.
func (lay netInMemory) text() string {
	all := impl.Net{Bag: lay.bag, Begun: lay.begun, Replies: lay.replies}
	text := lay.peers.text() + netText(all) + netText(lay.net)
	for _, whole := range lay.lists {
		text += numbersText(whole) + "|"
	}
	return text
}

// spoilNet writes over all of an answer, behind each length too.
func spoilNet(n impl.Net) {
	spoilPeers(n.Peers)
	spoil(n.Begun)
	bag := n.Bag[:cap(n.Bag)]
	for i := range bag {
		spoil(bag[i].List)
		bag[i] = impl.Msg{Kind: -77, Look: -77, To: -77, List: []int{-77}}
	}
	replies := n.Replies[:cap(n.Replies)]
	for i := range replies {
		replies[i] = impl.Reply{Look: -77, Key: -77}
	}
}

// spoiledText tells an answer, and writes over it.
func spoiledText(n impl.Net, ok bool) string {
	text := netText(n) + answerText(ok)
	spoilNet(n)
	return text
}

// allNetAnswers asks all functions of a net, tells what they answer, and
// writes over that.
func allNetAnswers(n impl.Net, look, id, key int) string {
	text := answerText(impl.GoodNet(n))
	fresh, ok := impl.NewNet(n.Peers, n.Ttl)
	text += spoiledText(fresh, ok)
	begun, ok := impl.BeginLook(n, look, id, key)
	text += spoiledText(begun, ok)
	for k := -1; k <= len(n.Bag); k++ {
		next, ok := impl.HandOver(n, k)
		text += spoiledText(next, ok)
		next, ok = impl.LoseMsg(n, k)
		text += spoiledText(next, ok)
	}
	open, ok := impl.OpenLooks(n)
	text += numbersText(open) + answerText(ok)
	lost, ok := impl.LostLooks(n)
	text += numbersText(lost) + answerText(ok)
	spoil(open)
	spoil(lost)
	return text
}

func checkNetStays(t *testing.T, n impl.Net, look, id, key int) {
	t.Helper()
	want := allNetAnswers(cloneNet(n), look, id, key)
	for _, behind := range []int{id, look, math.MinInt} {
		lay := layOutNet(n, behind)
		was := lay.text()
		got := allNetAnswers(lay.net, look, id, key)
		if lay.text() != was {
			t.Fatal("a net changed, or shared with an answer", was, lay.text())
		}
		if got != want {
			t.Fatal("hangs on what lies behind a list", got, want)
		}
	}
}

func TestNetsStayAsTheyWere(t *testing.T) {
	for _, p := range netPeers() {
		ids := modelMembers(p)
		for i, n := range someNets(p) {
			id := ids[i%len(ids)]
			checkNetStays(t, n, 77, id, oneDown(p.Space, id))
			if len(n.Begun) > 0 {
				checkNetStays(t, n, n.Begun[0], id, id)
			}
		}
	}
	for _, n := range wrongNets(threePeers()) {
		if len(n.Bag) < 20 && len(n.Begun) < 20 && len(n.Replies) < 20 {
			checkNetStays(t, n, 77, 5, 4)
		}
	}
}

// asksInMemory has asks in the midst of more memory, that might be taken too.
func asksInMemory(asks [][]int, behind int) (outer [][]int, wholes [][]int, laid [][]int) {
	outer = make([][]int, len(asks)+4)
	for i := range outer {
		whole := []int{behind, behind, behind, behind}
		if i >= 2 && i < 2+len(asks) {
			whole = append(append([]int{behind, behind}, asks[i-2]...), behind, behind)
		}
		wholes = append(wholes, whole)
		outer[i] = whole[2 : len(whole)-2]
	}
	return outer, wholes, outer[2 : 2+len(asks)]
}

func checkPlayStays(t *testing.T, p impl.Peers, ttl int, asks [][]int, picks []int) {
	t.Helper()
	fresh, ok := impl.PlayNet(clonePeers(p), ttl, asks, picks)
	want := spoiledText(fresh, ok)
	for _, behind := range []int{p.List[0].Id, 3, -1, 1000} {
		lay := layOut(p, behind)
		outer, wholes, laid := asksInMemory(asks, behind)
		whole := append(append([]int{behind, behind}, picks...), behind, behind)
		tell := func() string {
			text := lay.text() + numbersText(whole)
			for i := range outer {
				text += "|" + numbersText(outer[i]) + "=" + numbersText(wholes[i])
			}
			return text
		}
		was := tell()
		n, ok := impl.PlayNet(lay.peers, ttl, laid, whole[2:2+len(picks)])
		if got := spoiledText(n, ok); got != want {
			t.Fatal("hangs on what lies behind a list", asks, picks, got, want)
		}
		if tell() != was {
			t.Fatal("an argument changed, or shared with an answer", asks, picks, was, tell())
		}
	}
}

func TestArgumentsOfPlaysStayAsTheyWere(t *testing.T) {
	for _, p := range netPeers() {
		for many := 0; many <= 12; many += 3 {
			asks := someAsks(p, many)
			for i, picks := range pickOrders(40) {
				checkPlayStays(t, p, 9, asks, withLosses(picks, 3+i))
				checkPlayStays(t, p, 9, asks, picks[:i])
				checkPlayStays(t, p, -1, asks, picks)
			}
			checkPlayStays(t, p, 9, append(asks, []int{1, 2}), []int{0})
			checkPlayStays(t, p, 9, asks, []int{0, 1000})
		}
	}
}

// numberLists has all lists of numbers of a net, each with what lies behind
// its length.
func numberLists(n impl.Net) [][]int {
	lists := [][]int{n.Begun[:cap(n.Begun)]}
	for _, peer := range n.Peers.List {
		lists = append(lists, peer.Backs[:cap(peer.Backs)])
	}
	for _, m := range n.Bag {
		lists = append(lists, m.List[:cap(m.List)])
	}
	return lists
}

// Whatever is written into a list of an answer is not seen in another one.
func checkNetListsApart(t *testing.T, n impl.Net) {
	t.Helper()
	lists := numberLists(n)
	for i, l := range lists {
		for k := range l {
			l[k] = i
		}
	}
	for i, l := range lists {
		for _, x := range l {
			if x != i {
				t.Fatal("two lists of one answer share memory", netText(n), i, x)
			}
		}
	}
}

func TestListsOfOneNet(t *testing.T) {
	for _, p := range netPeers() {
		// All messages of one net with one piece of memory behind their
		// Lists, and all peers with one list as Backs.
		shared, one := make([]int, 8), []int{p.List[0].Id, p.List[0].Id}
		for i := range p.List {
			p.List[i].Backs = one
		}
		for _, n := range someNets(p) {
			for i := range n.Bag {
				n.Bag[i].List = shared[:0]
			}
			n.Peers = p
			fresh, _ := impl.NewNet(p, n.Ttl)
			checkNetListsApart(t, fresh)
			begun, _ := impl.BeginLook(n, 77, p.List[0].Id, 0)
			checkNetListsApart(t, begun)
			for k := range n.Bag {
				next, _ := impl.HandOver(n, k)
				checkNetListsApart(t, next)
				next, _ = impl.LoseMsg(n, k)
				checkNetListsApart(t, next)
			}
		}
		played, _ := impl.PlayNet(p, 9, someAsks(p, 12), make([]int, 30))
		checkNetListsApart(t, played)
		if !sameList(shared, make([]int, 8)) || !sameList(one, []int{p.List[0].Id, p.List[0].Id}) {
			t.Fatal("an answer shares memory with an argument", shared, one)
		}
	}
}

// What was handed in may change later: an answer does not.
func TestNetsAreNewMemory(t *testing.T) {
	for _, p := range netPeers() {
		for _, n := range someNets(p) {
			given := cloneNet(n)
			fresh, _ := impl.NewNet(given.Peers, given.Ttl)
			begun, _ := impl.BeginLook(given, 77, p.List[0].Id, 0)
			answers := []impl.Net{fresh, begun}
			for k := range given.Bag {
				next, _ := impl.HandOver(given, k)
				lost, _ := impl.LoseMsg(given, k)
				answers = append(answers, next, lost)
			}
			asks, picks := someAsks(p, 5), []int{0, 1, 2, 3, 4, 500}
			played, _ := impl.PlayNet(given.Peers, 9, asks, picks)
			answers = append(answers, played)
			was := ""
			for _, answer := range answers {
				was += netText(answer)
			}
			spoilNet(given)
			spoil(picks)
			for _, ask := range asks {
				spoil(ask)
			}
			now := ""
			for _, answer := range answers {
				now += netText(answer)
			}
			if now != was {
				t.Fatal("an answer shares memory with an argument", was, now)
			}
		}
	}
}

func TestNothingIsKeptOfNets(t *testing.T) {
	want := allNetAnswers(sixLooks(), 8, 5, 4)
	for _, p := range netPeers() {
		for _, other := range append(someNets(p), impl.Net{}, impl.Net{Peers: p, Ttl: -1}) {
			allNetAnswers(other, 8, p.List[0].Id, 0)
			if got := allNetAnswers(sixLooks(), 8, 5, 4); got != want {
				t.Fatal(got, want)
			}
		}
	}
}

// None of the peers is left at work, whether there is an answer or not.
func TestNoPeerIsLeftAtWork(t *testing.T) {
	before := runtime.NumGoroutine()
	for _, p := range netPeers() {
		for _, n := range append(someNets(p), wrongNets(threePeers())[:20]...) {
			allNetAnswers(n, 77, p.List[0].Id, 0)
		}
		for _, picks := range pickOrders(50) {
			impl.PlayNet(p, 9, someAsks(p, 12), withLosses(picks, 4))
			impl.PlayNet(p, 9, someAsks(p, 12), append(picks, -1))
			impl.PlayNet(p, 9, append(someAsks(p, 5), nil), picks)
		}
	}
	// One that has told all it has to tell may still be on its way out.
	for wait := 0; runtime.NumGoroutine() > before && wait < 1000; wait++ {
		time.Sleep(time.Millisecond)
	}
	if after := runtime.NumGoroutine(); after > before {
		t.Error("at work ahead of it", before, "and behind it", after)
	}
}

// What is answered does not hang on how goroutines run: alone, many at one
// time and of the same net, and with one processor or more.
func TestNetsAskedByManyAtOnce(t *testing.T) {
	p := modelIdeal(impl.Space{Bits: 9, Digit: 3}, []int{4, 100, 300, 301, 302, 511}, 3)
	n, asks := strayNet(p, 20, 12, 3), someAsks(p, 12)
	picks := withLosses(pickOrders(200)[6], 30)
	ask := func() string {
		played, ok := impl.PlayNet(p, 20, asks, picks)
		return allNetAnswers(n, 77, 100, 5) + netText(played) + answerText(ok)
	}
	want := ask()
	for _, processors := range []int{1, 2, runtime.NumCPU()} {
		was := runtime.GOMAXPROCS(processors)
		var all sync.WaitGroup
		for range 30 {
			all.Go(func() {
				for range 5 {
					if got := ask(); got != want {
						t.Error("got", got, "want", want)
					}
				}
			})
		}
		all.Wait()
		runtime.GOMAXPROCS(was)
	}
}
