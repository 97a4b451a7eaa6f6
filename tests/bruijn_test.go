package tests

import (
	"testing"

	"loop.example/g00749/impl"
)

func TestPointOf(t *testing.T) {
	bit, two, four := impl.Space{Bits: 4, Digit: 1}, impl.Space{Bits: 4, Digit: 2}, impl.Space{Bits: 4, Digit: 4}
	for _, c := range []struct {
		name    string
		s       impl.Space
		m       []int
		x, want int
	}{
		{"shifted is a member", bit, []int{2, 5, 11}, 1, 2},
		{"shifted is a member, the top bit lost", bit, []int{2, 5, 11}, 9, 2},
		{"shifted is just above a member", bit, []int{2, 5, 11}, 3, 5},
		{"shifted is just below a member", bit, []int{2, 5, 11}, 5, 5},
		{"shifted is far above the last", bit, []int{2, 5, 11}, 15, 11},
		{"shifted is 0, down past it", bit, []int{2, 5, 11}, 0, 11},
		{"shifted is 0, the top bit lost", bit, []int{2, 5, 11}, 8, 11},
		{"shifted is below all, down past 0", bit, []int{5, 7}, 1, 7},
		{"shifted is 0, which is a member", bit, []int{0, 15}, 8, 0},
		{"the top itself", bit, []int{0, 14, 15}, 15, 14},
		{"two bits a digit", two, []int{2, 5, 11}, 5, 2},
		{"two bits a digit, just above", two, []int{2, 5, 11}, 3, 11},
		{"two bits a digit, past 0", two, []int{2, 5, 11}, 4, 11},
		{"a Digit as great as Bits", four, []int{2, 5, 11}, 5, 11},
		{"a Digit as great as Bits, at 0", four, []int{0, 5, 11}, 5, 0},
		{"alone, just below", bit, []int{7}, 4, 7},
		{"alone, at it", bit, []int{6}, 3, 6},
		{"alone, all but once round", bit, []int{7}, 3, 7},
		{"one bit, past 0", impl.Space{Bits: 1, Digit: 1}, []int{1}, 1, 1},
		{"one bit, both", impl.Space{Bits: 1, Digit: 1}, []int{0, 1}, 1, 0},
		{"twelve bits", impl.Space{Bits: 12, Digit: 4}, []int{0x100, 0xbc0, 0xbc1}, 0xabc, 0xbc0},
		{"twelve bits, past 0", impl.Space{Bits: 12, Digit: 12}, []int{1, 4095}, 1, 4095},
	} {
		if y, ok := impl.PointOf(c.s, c.m, c.x); y != c.want || !ok {
			t.Error(c.name, "got", y, ok)
		}
	}
	for _, s := range spacesUpTo(12) {
		for _, m := range ringsOf(s) {
			for _, x := range numbersNear(s, m) {
				if y, ok := impl.PointOf(s, m, x); y != modelPoint(s, m, x) || !ok {
					t.Fatal(s, m, x, "got", y, ok)
				}
			}
		}
	}
}

func TestIdealPeers(t *testing.T) {
	s := impl.Space{Bits: 4, Digit: 1}
	for _, c := range []struct {
		name  string
		m     []int
		backs int
		want  []impl.Peer
	}{
		{"no Backs", []int{2, 5, 11}, 0, []impl.Peer{{Id: 2, Succ: 5, Point: 2}, {Id: 5, Succ: 11, Point: 5}, {Id: 11, Succ: 2, Point: 5}}},
		{"3 Backs", []int{2, 5, 11}, 3, []impl.Peer{
			{Id: 2, Succ: 5, Point: 2, Backs: []int{11, 5, 2}},
			{Id: 5, Succ: 11, Point: 5, Backs: []int{2, 11, 5}},
			{Id: 11, Succ: 2, Point: 5, Backs: []int{2, 11, 5}}}},
		{"alone, no Backs", []int{7}, 0, []impl.Peer{{Id: 7, Succ: 7, Point: 7}}},
		{"alone, 3 Backs", []int{7}, 3, []impl.Peer{{Id: 7, Succ: 7, Point: 7, Backs: []int{7, 7, 7}}}},
		{"more Backs than others", []int{4, 9}, 2, []impl.Peer{
			{Id: 4, Succ: 9, Point: 4, Backs: []int{9, 4}},
			{Id: 9, Succ: 4, Point: 9, Backs: []int{4, 9}}}},
	} {
		p, ok := impl.IdealPeers(s, c.m, c.backs)
		if !ok || !samePeers(p, impl.Peers{Space: s, List: c.want}) {
			t.Error(c.name, "got", p, ok)
		}
	}
}

func TestIdealPeersByModel(t *testing.T) {
	for _, s := range spacesUpTo(12) {
		for _, m := range ringsOf(s) {
			for backs := 0; backs <= 3; backs++ {
				p, ok := impl.IdealPeers(s, m, backs)
				if !ok || !samePeers(p, modelIdeal(s, m, backs)) {
					t.Fatal(s, m, backs, "got", p, ok)
				}
				if !impl.GoodPeers(p) {
					t.Fatal("ideal ones are not good", s, m, backs, p)
				}
				if is, ok := impl.IsIdeal(p); !is || !ok {
					t.Fatal("ideal ones are not ideal", s, m, backs, p, is, ok)
				}
			}
		}
	}
}

// A ring that holds every number points at just the shifted ones, and so does
// one of all even numbers, with MaxMembers members.
func TestIdealPeersOfFullRings(t *testing.T) {
	for _, c := range []struct {
		s    impl.Space
		step int
	}{
		{impl.Space{Bits: 1, Digit: 1}, 1}, {impl.Space{Bits: 3, Digit: 3}, 1}, {impl.Space{Bits: 4, Digit: 1}, 1},
		{impl.Space{Bits: 4, Digit: 2}, 1}, {impl.Space{Bits: 4, Digit: 4}, 1}, {impl.Space{Bits: 5, Digit: 1}, 2},
	} {
		size := powerOf2(c.s.Bits)
		m := membersWhere(c.s, func(x int) bool { return x%c.step == 0 })
		p, ok := impl.IdealPeers(c.s, m, 2)
		if !ok || len(p.List) != len(m) {
			t.Fatal(c, p, ok)
		}
		for i, peer := range p.List {
			at := m[i] * powerOf2(c.s.Digit) % size
			backs := []int{(at + size - c.step) % size, (at + 2*size - 2*c.step) % size}
			if peer.Id != m[i] || peer.Succ != m[(i+1)%len(m)] || peer.Point != at || !sameList(peer.Backs, backs) {
				t.Error(c, "got", peer)
			}
		}
	}
}

// Promise 3, with the functions of chapters 1 and 2: the pointer is at the
// number with a digit shifted in or ahead of it, with no member between.
func TestPromise3(t *testing.T) {
	for _, s := range spacesUpTo(12) {
		for _, m := range ringsOf(s) {
			p, ok := impl.IdealPeers(s, m, 1)
			if !ok {
				t.Fatal("no peers", s, m)
			}
			for _, peer := range p.List {
				checkPromise3(t, s, m, peer.Id, peer.Point)
			}
			for _, x := range numbersNear(s, m) {
				y, ok := impl.PointOf(s, m, x)
				if !ok {
					t.Fatal("no pointer", s, m, x)
				}
				checkPromise3(t, s, m, x, y)
			}
		}
	}
}

func checkPromise3(t *testing.T, s impl.Space, m []int, x, point int) {
	t.Helper()
	at, ok := impl.ShiftIn(s, x, 0)
	if !ok || !contains(m, point) {
		t.Fatal("points at no member", s, m, x, point)
	}
	if point == at {
		return
	}
	for _, y := range m {
		// From the pointer on up to the number, that itself counted.
		if between, ok := impl.InArc(s, point, y, at); between || !ok {
			t.Fatal(s, m, "of", x, "at", at, "points at", point, "though there is", y)
		}
	}
	if next, _ := impl.NextOf(s, m, point); next != point {
		if mine, _ := impl.Between(s, point, at, next); !mine {
			t.Fatal(s, m, "of", x, "at", at, "points at", point, "though the next is", next)
		}
	}
}

func TestGoodPeers(t *testing.T) {
	for _, s := range spacesUpTo(12) {
		for _, m := range ringsOf(s) {
			for _, p := range goodPeersOf(s, m) {
				if !impl.GoodPeers(p) {
					t.Fatal("good ones refused", p)
				}
			}
		}
	}
}

// Every pair of peers with numbers in and near a space of one bit, and in a
// space of two some.
func TestGoodPeersByModel(t *testing.T) {
	for _, s := range []impl.Space{{Bits: 1, Digit: 1}, {Bits: 2, Digit: 2}} {
		numbers := []int{-1, 0, 1, 2}
		if s.Bits == 2 {
			numbers = []int{0, 2, 3}
		}
		for _, l := range listsOf(numbers, 4) {
			checkGoodPeers(t, impl.Peers{Space: s, List: []impl.Peer{{Id: l[0], Succ: l[1], Point: l[2], Backs: l[3:]}}})
		}
		for _, l := range listsOf(numbers, 7) {
			checkGoodPeers(t, impl.Peers{Space: s, List: []impl.Peer{
				{Id: l[0], Succ: l[1], Point: l[2]}, {Id: l[3], Succ: l[4], Point: l[5], Backs: l[6:]}}})
		}
	}
}

func checkGoodPeers(t *testing.T, p impl.Peers) {
	t.Helper()
	if is := impl.GoodPeers(p); is != modelGoodPeers(p) {
		t.Fatal(p, "got", is)
	}
}

// listsOf has every list of so many of the numbers.
func listsOf(numbers []int, long int) [][]int {
	lists := [][]int{nil}
	for i := 0; i < long; i++ {
		var longer [][]int
		for _, l := range lists {
			for _, x := range numbers {
				longer = append(longer, append(l[:len(l):len(l)], x))
			}
		}
		lists = longer
	}
	return lists
}

func TestIsIdeal(t *testing.T) {
	s := impl.Space{Bits: 4, Digit: 1}
	ideal := modelIdeal(s, []int{2, 5, 11}, 2)
	alone := modelIdeal(s, []int{7}, 0)
	for _, c := range []struct {
		name string
		p    impl.Peers
		want bool
	}{
		{"as they are", ideal, true},
		{"another Point", modelSet(ideal, 5, 2, []int{2, 11}), false},
		{"another Point of the last", modelSet(ideal, 11, 11, []int{2, 11}), false},
		{"other Backs", modelSet(ideal, 5, 5, []int{2, 2}), false},
		{"Backs in another order", modelSet(ideal, 5, 5, []int{11, 2}), false},
		{"Backs one fewer", modelSet(ideal, 5, 5, []int{2}), false},
		{"Backs one more", modelSet(ideal, 5, 5, []int{2, 11, 5}), false},
		{"Backs of the first one fewer", modelSet(ideal, 2, 2, []int{11}), false},
		{"Backs of the first one more", modelSet(ideal, 2, 2, []int{11, 5, 2}), false},
		{"no Backs of the last", modelSet(ideal, 11, 5, nil), false},
		{"alone, no Backs", alone, true},
		{"alone, 3 Backs", modelSet(alone, 7, 7, []int{7, 7, 7}), true},
		{"Backs of a wrong Point", modelSet(ideal, 5, 11, []int{5, 2}), false},
	} {
		if is, ok := impl.IsIdeal(c.p); is != c.want || !ok {
			t.Error(c.name, "got", is, ok)
		}
	}
	for _, s := range spacesUpTo(12) {
		for _, m := range ringsOf(s) {
			for _, p := range goodPeersOf(s, m) {
				if is, ok := impl.IsIdeal(p); is != modelIsIdeal(p) || !ok {
					t.Fatal(p, "got", is, ok)
				}
			}
		}
	}
}

// Of all that SetPoint makes of ideal peers only those are ideal that are as
// they were.
func TestIsIdealOnceSet(t *testing.T) {
	for _, s := range spacesUpTo(3) {
		for _, m := range ringsOf(s) {
			p := modelIdeal(s, m, 1)
			for _, id := range m {
				for _, l := range listsOf(m, 2) {
					set := modelSet(p, id, l[0], l[1:])
					if is, ok := impl.IsIdeal(set); is != samePeers(set, p) || !ok {
						t.Fatal(p, "set", set, "got", is, ok)
					}
				}
			}
		}
	}
}

func TestSetPoint(t *testing.T) {
	s := impl.Space{Bits: 4, Digit: 1}
	p := modelIdeal(s, []int{2, 5, 11}, 1)
	for _, c := range []struct {
		name      string
		id, point int
		backs     []int
	}{
		{"the first", 2, 11, []int{5}},
		{"the last", 11, 2, []int{5}},
		{"the Id itself", 5, 5, []int{5}},
		{"no Backs", 5, 11, nil},
		{"an empty list of Backs", 5, 11, []int{}},
		{"3 Backs", 5, 2, []int{11, 2, 5}},
		{"Backs alike", 5, 2, []int{2, 2, 2}},
		{"as it was", 2, 2, []int{11}},
	} {
		q, ok := impl.SetPoint(p, c.id, c.point, c.backs)
		if !ok || !samePeers(q, modelSet(p, c.id, c.point, c.backs)) {
			t.Error(c.name, "got", q, ok)
		}
	}
	for _, s := range spacesUpTo(12) {
		for _, m := range ringsOf(s) {
			for i, p := range goodPeersOf(s, m) {
				checkSetPoint(t, p, m, i)
			}
		}
	}
}

func checkSetPoint(t *testing.T, p impl.Peers, m []int, seed int) {
	t.Helper()
	for i, id := range m {
		point := m[(seed+i*i)%len(m)]
		var backs []int
		for k := 0; k < (seed+i)%4; k++ {
			backs = append(backs, m[(seed*3+i+k)%len(m)])
		}
		q, ok := impl.SetPoint(p, id, point, backs)
		if !ok || !samePeers(q, modelSet(p, id, point, backs)) || !impl.GoodPeers(q) {
			t.Fatal(p, id, point, backs, "got", q, ok)
		}
	}
}

func TestCrowdOf(t *testing.T) {
	bit, two, four := impl.Space{Bits: 4, Digit: 1}, impl.Space{Bits: 4, Digit: 2}, impl.Space{Bits: 4, Digit: 4}
	every := []int{0, 1, 2, 3, 4, 5, 6, 7, 8, 9, 10, 11, 12, 13, 14, 15}
	for _, c := range []struct {
		name string
		s    impl.Space
		m    []int
		want int
	}{
		{"even", bit, []int{0, 4, 8, 12}, 1},
		{"every number, one between", bit, every, 1},
		{"every number, three between", two, every, 3},
		{"every number, all between", four, every, 15},
		{"a gap of just half, ends at 0", bit, []int{0, 8}, 1},
		{"a gap of just half", bit, []int{1, 9}, 2},
		{"a gap of just a quarter", two, []int{1, 5}, 2},
		{"a gap of one beyond a quarter", two, []int{1, 6}, 0},
		{"a gap of one beyond a quarter, past 0", two, []int{1, 12}, 0},
		{"a gap of just 1", four, []int{1, 2}, 2},
		{"a gap of just 1, past 0", four, []int{0, 15}, 1},
		{"a gap of one beyond 1", four, []int{1, 3}, 0},
		{"no such gap", two, []int{0, 5, 10}, 0},
		{"alone, none", bit, []int{1}, 0},
		{"alone, none, at 0", four, []int{0}, 0},
		{"neither end counts", bit, []int{0, 1, 2}, 1},
		{"one bit, both", impl.Space{Bits: 1, Digit: 1}, []int{0, 1}, 1},
		{"one bit, alone", impl.Space{Bits: 1, Digit: 1}, []int{1}, 0},
		{"crowded at an end", impl.Space{Bits: 12, Digit: 1}, []int{1024, 2048, 4090, 4091, 4092, 4093}, 4},
	} {
		if n, ok := impl.CrowdOf(c.s, c.m); n != c.want || !ok {
			t.Error(c.name, "got", n, ok)
		}
	}
	for _, s := range spacesUpTo(12) {
		for _, m := range ringsOf(s) {
			if n, ok := impl.CrowdOf(s, m); n != modelCrowd(s, m) || !ok {
				t.Fatal(s, m, "got", n, ok)
			}
		}
	}
}

// Every ring of the spaces with four bits: gaps at the limit and one beyond it
// are among them.
func TestCrowdOfEveryRing(t *testing.T) {
	for _, digit := range digitWidths[4] {
		s := impl.Space{Bits: 4, Digit: digit}
		for _, m := range allRings(s, 7) {
			if n, ok := impl.CrowdOf(s, m); n != modelCrowd(s, m) || !ok {
				t.Fatal(s, m, "got", n, ok)
			}
		}
	}
}

func TestMembersOf(t *testing.T) {
	for _, s := range spacesUpTo(12) {
		for _, m := range ringsOf(s) {
			for _, p := range goodPeersOf(s, m) {
				if l, ok := impl.MembersOf(p); !sameList(l, m) || !ok {
					t.Fatal(p, "got", l, ok)
				}
			}
		}
	}
}
