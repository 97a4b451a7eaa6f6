package tests

import (
	"testing"

	"loop.example/g00749/impl"
)

func TestMaxMembers(t *testing.T) {
	if impl.MaxMembers != 16 {
		t.Error(impl.MaxMembers)
	}
}

func TestGoodRing(t *testing.T) {
	for _, s := range spacesUpTo(12) {
		for _, m := range ringsOf(s) {
			if !impl.GoodRing(s, m) {
				t.Fatal("good one refused", s, m)
			}
		}
		for _, m := range wrongRings(s) {
			if impl.GoodRing(s, m) {
				t.Fatal("wrong one taken", s, m)
			}
		}
	}
	for _, s := range wrongSpaces() {
		for _, m := range [][]int{nil, {}, {0}, {1}, {0, 1}, {-1}} {
			if impl.GoodRing(s, m) {
				t.Error("ring of a wrong space taken", s, m)
			}
		}
	}
}

// Every list of at most 3 numbers near the ends of a small space.
func TestGoodRingShortLists(t *testing.T) {
	for _, s := range spacesUpTo(3) {
		top := powerOf2(s.Bits)
		for a := -1; a <= top; a++ {
			for b := -1; b <= top; b++ {
				for c := -1; c <= top; c++ {
					for _, m := range [][]int{{a}, {a, b}, {a, b, c}} {
						if impl.GoodRing(s, m) != modelGoodRing(s, m) {
							t.Fatal(s, m, impl.GoodRing(s, m))
						}
					}
				}
			}
		}
	}
}

func TestWhoIsNear(t *testing.T) {
	s := impl.Space{Bits: 4, Digit: 2}
	m := []int{2, 5, 11}
	for _, c := range []struct {
		name              string
		x                 int
		owner, next, prev int
	}{
		{"at the first member", 2, 2, 5, 11},
		{"at a member between", 5, 5, 11, 2},
		{"at the last member", 11, 11, 2, 5},
		{"just above a member", 3, 5, 5, 2},
		{"just below a member", 4, 5, 5, 2},
		{"between two", 8, 11, 11, 5},
		{"up past 0", 12, 2, 2, 11},
		{"up past 0 from the top", 15, 2, 2, 11},
		{"down past 0", 0, 2, 2, 11},
		{"down past 0, just below the first", 1, 2, 2, 11},
	} {
		if y, ok := impl.OwnerOf(s, m, c.x); y != c.owner || !ok {
			t.Error("OwnerOf", c.name, y, ok)
		}
		if y, ok := impl.NextOf(s, m, c.x); y != c.next || !ok {
			t.Error("NextOf", c.name, y, ok)
		}
		if y, ok := impl.PrevOf(s, m, c.x); y != c.prev || !ok {
			t.Error("PrevOf", c.name, y, ok)
		}
	}
}

func TestMemberAlone(t *testing.T) {
	for _, s := range spacesUpTo(12) {
		size := powerOf2(s.Bits)
		for _, alone := range []int{0, size / 2, size - 1} {
			m := []int{alone}
			for _, x := range numbersNear(s, m) {
				checkNear(t, s, m, x)
				if y, ok := impl.NextOf(s, m, x); y != alone || !ok {
					t.Error("NextOf", s, m, x, y, ok)
				}
				if y, ok := impl.PrevOf(s, m, x); y != alone || !ok {
					t.Error("PrevOf", s, m, x, y, ok)
				}
			}
			if n, ok := impl.GapOf(s, m, alone); n != size || !ok {
				t.Error("GapOf", s, m, n, ok)
			}
			if n, ok := impl.KeysOf(s, m, alone); n != size || !ok {
				t.Error("KeysOf", s, m, n, ok)
			}
			if l, ok := impl.ListFrom(s, m, alone, 2); !sameList(l, []int{alone, alone}) || !ok {
				t.Error("ListFrom", s, m, l, ok)
			}
			if l, ok := impl.LeaveRing(s, m, alone); len(l) != 0 || ok {
				t.Error("the last one left", s, m, l, ok)
			}
		}
	}
}

func checkNear(t *testing.T, s impl.Space, m []int, x int) {
	t.Helper()
	if y, ok := impl.OwnerOf(s, m, x); y != modelOwner(s, m, x) || !ok {
		t.Fatal("OwnerOf", s, m, x, "got", y, ok)
	}
	if y, ok := impl.NextOf(s, m, x); y != modelNext(s, m, x) || !ok {
		t.Fatal("NextOf", s, m, x, "got", y, ok)
	}
	if y, ok := impl.PrevOf(s, m, x); y != modelPrev(s, m, x) || !ok {
		t.Fatal("PrevOf", s, m, x, "got", y, ok)
	}
}

func TestNearByModel(t *testing.T) {
	for _, s := range spacesUpTo(12) {
		for _, m := range ringsOf(s) {
			for _, x := range numbersNear(s, m) {
				checkNear(t, s, m, x)
			}
		}
	}
}

func TestListFrom(t *testing.T) {
	s := impl.Space{Bits: 4, Digit: 1}
	m := []int{2, 5, 11}
	for _, c := range []struct {
		x, many int
		want    []int
	}{
		{2, 0, nil},
		{2, 1, []int{5}},
		{3, 1, []int{5}},
		{11, 1, []int{2}},
		{15, 2, []int{2, 5}},
		{0, 3, []int{2, 5, 11}},
		{5, 3, []int{11, 2, 5}},
		{5, 4, []int{11, 2, 5, 11}},
		{12, 16, []int{2, 5, 11, 2, 5, 11, 2, 5, 11, 2, 5, 11, 2, 5, 11, 2}},
	} {
		if l, ok := impl.ListFrom(s, m, c.x, c.many); !sameList(l, c.want) || !ok {
			t.Error(c, "got", l, ok)
		}
	}
	for _, s := range spacesUpTo(12) {
		for _, m := range ringsOf(s) {
			for i, x := range numbersNear(s, m) {
				for _, many := range []int{0, 1, len(m) - 1, len(m), i % 17, 15, 16} {
					if l, ok := impl.ListFrom(s, m, x, many); !sameList(l, modelListFrom(s, m, x, many)) || !ok {
						t.Fatal("ListFrom", s, m, x, many, "got", l, ok)
					}
				}
			}
		}
	}
}

func TestGapOf(t *testing.T) {
	s := impl.Space{Bits: 4, Digit: 2}
	m := []int{2, 5, 11}
	for i, want := range []int{3, 6, 7} {
		if n, ok := impl.GapOf(s, m, m[i]); n != want || !ok {
			t.Error("GapOf", m[i], n, ok)
		}
	}
	for _, s := range spacesUpTo(12) {
		for _, m := range ringsOf(s) {
			for _, x := range m {
				if n, ok := impl.GapOf(s, m, x); n != modelGap(s, m, x) || !ok {
					t.Fatal("GapOf", s, m, x, "got", n, ok)
				}
			}
		}
	}
}

func TestKeysOf(t *testing.T) {
	s := impl.Space{Bits: 4, Digit: 2}
	m := []int{2, 5, 11}
	for i, want := range []int{7, 3, 6} {
		if n, ok := impl.KeysOf(s, m, m[i]); n != want || !ok {
			t.Error("KeysOf", m[i], n, ok)
		}
	}
	for _, s := range spacesUpTo(7) {
		for _, m := range ringsOf(s) {
			for _, x := range m {
				if n, ok := impl.KeysOf(s, m, x); n != modelKeys(s, m, x) || !ok {
					t.Fatal("KeysOf", s, m, x, "got", n, ok)
				}
			}
		}
	}
}

func TestJoinRing(t *testing.T) {
	s := impl.Space{Bits: 4, Digit: 2}
	for _, c := range []struct {
		x    int
		want []int
	}{
		{0, []int{0, 2, 5, 11}},
		{3, []int{2, 3, 5, 11}},
		{10, []int{2, 5, 10, 11}},
		{15, []int{2, 5, 11, 15}},
	} {
		if l, ok := impl.JoinRing(s, []int{2, 5, 11}, c.x); !sameList(l, c.want) || !ok {
			t.Error(c, "got", l, ok)
		}
	}
	for _, s := range spacesUpTo(12) {
		for _, m := range ringsOf(s) {
			for _, x := range numbersNear(s, m) {
				l, ok := impl.JoinRing(s, m, x)
				room := len(m) < 16 && !contains(m, x)
				if room && (!ok || !sameList(l, modelJoin(s, m, x))) {
					t.Fatal("JoinRing", s, m, x, "got", l, ok)
				}
				if !room && (ok || len(l) != 0) {
					t.Fatal("JoinRing without room", s, m, x, "got", l, ok)
				}
			}
		}
	}
}

// A ring may be filled up to MaxMembers members and not beyond.
func TestJoinTillFull(t *testing.T) {
	s := impl.Space{Bits: 5, Digit: 1}
	m := []int{31}
	for i := 1; i < 16; i++ {
		l, ok := impl.JoinRing(s, m, 31-2*i)
		if !ok || len(l) != i+1 || !impl.GoodRing(s, l) {
			t.Fatal(i, l, ok)
		}
		m = l
	}
	for x := 0; x < 32; x++ {
		if l, ok := impl.JoinRing(s, m, x); ok || len(l) != 0 {
			t.Error("joined a full ring", x, l, ok)
		}
	}
	small := impl.Space{Bits: 3, Digit: 3}
	every := []int{0, 1, 2, 3, 4, 5, 6, 7}
	for x := 0; x < 8; x++ {
		if l, ok := impl.JoinRing(small, every, x); ok || len(l) != 0 {
			t.Error("joined a ring that holds every number", x, l, ok)
		}
	}
}

func TestLeaveRing(t *testing.T) {
	s := impl.Space{Bits: 4, Digit: 2}
	for _, c := range []struct {
		x    int
		want []int
	}{
		{2, []int{5, 11}},
		{5, []int{2, 11}},
		{11, []int{2, 5}},
	} {
		if l, ok := impl.LeaveRing(s, []int{2, 5, 11}, c.x); !sameList(l, c.want) || !ok {
			t.Error(c, "got", l, ok)
		}
	}
	for _, s := range spacesUpTo(12) {
		for _, m := range ringsOf(s) {
			for _, x := range numbersNear(s, m) {
				l, ok := impl.LeaveRing(s, m, x)
				may := len(m) > 1 && contains(m, x)
				if may && (!ok || !sameList(l, modelLeave(s, m, x))) {
					t.Fatal("LeaveRing", s, m, x, "got", l, ok)
				}
				if !may && (ok || len(l) != 0) {
					t.Fatal("LeaveRing of what can't leave", s, m, x, "got", l, ok)
				}
			}
		}
	}
}

// Who joins and leaves again leaves the ring as it was.
func TestJoinAndLeave(t *testing.T) {
	for _, s := range spacesUpTo(12) {
		for _, m := range ringsOf(s) {
			for _, x := range numbersNear(s, m) {
				if l, ok := impl.JoinRing(s, m, x); ok {
					if back, ok := impl.LeaveRing(s, l, x); !sameList(back, m) || !ok {
						t.Fatal(s, m, x, l, back, ok)
					}
				}
			}
		}
	}
}

// Promise 2: each number has one owner, and all members own all numbers
// together.
func TestPromise2(t *testing.T) {
	for _, s := range spacesUpTo(12) {
		if s.Bits > 8 && s.Digit != 1 {
			continue
		}
		for _, m := range ringsOf(s) {
			checkOwners(t, s, m)
		}
	}
}

func checkOwners(t *testing.T, s impl.Space, m []int) {
	t.Helper()
	owned := map[int]int{}
	for k := 0; k < powerOf2(s.Bits); k++ {
		owner, ok := impl.OwnerOf(s, m, k)
		if !ok || !contains(m, owner) {
			t.Fatal("no member owns", s, m, k, owner, ok)
		}
		owned[owner]++
		owners := 0
		for _, x := range m {
			prev, _ := impl.PrevOf(s, m, x)
			if mine, _ := impl.InArc(s, prev, k, x); mine {
				owners++
				if x != owner {
					t.Fatal("owned by another one", s, m, k, owner, x)
				}
			}
		}
		if owners != 1 {
			t.Fatal("not one owner", s, m, k, owners)
		}
	}
	sum := 0
	for _, x := range m {
		keys, ok := impl.KeysOf(s, m, x)
		if !ok || keys != owned[x] || keys < 1 {
			t.Fatal("KeysOf", s, m, x, keys, "owns", owned[x], ok)
		}
		sum += keys
	}
	if sum != powerOf2(s.Bits) {
		t.Fatal("not all are owned", s, m, sum)
	}
}

// Going up and going down undo one another, and gaps go once round.
func TestRoundTheRing(t *testing.T) {
	for _, s := range spacesUpTo(12) {
		for _, m := range ringsOf(s) {
			round := 0
			for _, x := range m {
				next, _ := impl.NextOf(s, m, x)
				if prev, ok := impl.PrevOf(s, m, next); prev != x || !ok {
					t.Fatal("back", s, m, x, next, prev, ok)
				}
				gap, _ := impl.GapOf(s, m, x)
				keys, _ := impl.KeysOf(s, m, next)
				if gap != keys {
					t.Fatal("gap and keys", s, m, x, gap, keys)
				}
				round += gap
			}
			if round != powerOf2(s.Bits) {
				t.Fatal("once round", s, m, round)
			}
		}
	}
}
