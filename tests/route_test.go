package tests

import (
	"testing"

	"loop.example/g00749/impl"
)

func TestWalkStates(t *testing.T) {
	if impl.WkOn != 0 || impl.WkFound != 1 || impl.WkSpent != 2 {
		t.Error(impl.WkOn, impl.WkFound, impl.WkSpent)
	}
}

func TestBestImag(t *testing.T) {
	bit, two, four := impl.Space{Bits: 4, Digit: 1}, impl.Space{Bits: 4, Digit: 2}, impl.Space{Bits: 4, Digit: 4}
	twelve := impl.Space{Bits: 12, Digit: 4}
	for _, c := range []struct {
		name          string
		s             impl.Space
		from, to, key int
		imag, left    int
	}{
		{"all but one digit", bit, 4, 8, 9, 4, 1},
		{"the key itself, inside", bit, 4, 8, 6, 6, 0},
		{"the key itself, at from", bit, 4, 8, 4, 4, 0},
		{"the key itself, last ahead of to", bit, 4, 8, 7, 7, 0},
		{"the key is to, which is not counted", bit, 4, 8, 8, 4, 1},
		{"the key just ahead of from", bit, 4, 8, 3, 4, 2},
		{"a number alone, all digits", bit, 5, 6, 5, 5, 0},
		{"a number alone, three digits", bit, 5, 6, 0b1011, 5, 1},
		{"a number alone, one digit", bit, 0b1110, 0b1111, 0b0111, 0b1110, 3},
		{"a number alone, no digit", bit, 0, 1, 15, 0, 4},
		{"the first of several", bit, 1, 6, 0b1010, 0b101, 1},
		{"the first of several, one digit", two, 1, 9, 0b1011, 0b0010, 1},
		{"past 0, the first of two, ahead of it", bit, 13, 3, 0b1000, 14, 2},
		{"past 0, behind it", bit, 13, 3, 0b0011, 1, 1},
		{"past 0, the key ahead of it", bit, 13, 3, 14, 14, 0},
		{"past 0, the key behind it", bit, 13, 3, 1, 1, 0},
		{"past 0, at it", bit, 13, 3, 0, 0, 0},
		{"past 0, two bits a digit, at from", two, 15, 12, 0b1101, 15, 1},
		{"past 0, two bits a digit, the key", two, 15, 12, 0b0111, 0b0111, 0},
		{"past 0, two bits a digit, behind it", two, 15, 3, 0b0110, 1, 1},
		{"from and to the same, the key", bit, 5, 5, 3, 3, 0},
		{"from and to the same, at them", bit, 5, 5, 5, 5, 0},
		{"from and to the same, one ahead", two, 5, 5, 4, 4, 0},
		{"all but one number, the key that one", two, 6, 5, 5, 9, 1},
		{"a Digit as great as Bits, there", four, 3, 9, 8, 8, 0},
		{"a Digit as great as Bits, not there", four, 3, 9, 9, 3, 1},
		{"a Digit as great as Bits, the same", four, 3, 3, 2, 2, 0},
		{"one bit, there", impl.Space{Bits: 1, Digit: 1}, 1, 0, 1, 1, 0},
		{"one bit, not there", impl.Space{Bits: 1, Digit: 1}, 1, 0, 0, 1, 1},
		{"one bit, all", impl.Space{Bits: 1, Digit: 1}, 1, 1, 0, 0, 0},
		{"twelve bits, two digits", twelve, 0x100, 0x200, 0xabc, 0x1ab, 1},
		{"twelve bits, one digit", twelve, 0x100, 0x110, 0xabc, 0x10a, 2},
		{"twelve bits, none", twelve, 0x10b, 0x11a, 0xabc, 0x10b, 3},
		{"twelve bits, past 0", twelve, 0xffb, 0x00b, 0xabc, 0x00a, 2},
		{"twelve bits, the last number", twelve, 0xf00, 0x000, 0xfff, 0xfff, 0},
	} {
		if imag, left, ok := impl.BestImag(c.s, c.from, c.to, c.key); imag != c.imag || left != c.left || !ok {
			t.Error(c.name, "got", imag, left, ok)
		}
	}
}

func checkImag(t *testing.T, s impl.Space, from, to, key int) {
	t.Helper()
	wantImag, wantLeft := modelImag(s, from, to, key)
	if imag, left, ok := impl.BestImag(s, from, to, key); imag != wantImag || left != wantLeft || !ok {
		t.Fatal(s, from, to, key, "got", imag, left, ok, "want", wantImag, wantLeft)
	}
}

func TestBestImagByModel(t *testing.T) {
	for _, s := range spacesUpTo(4) {
		size := powerOf2(s.Bits)
		for from := 0; from < size; from++ {
			for to := 0; to < size; to++ {
				for key := 0; key < size; key++ {
					checkImag(t, s, from, to, key)
				}
			}
		}
	}
	for _, s := range spacesUpTo(12)[len(spacesUpTo(4)):] {
		size := powerOf2(s.Bits)
		for i := 0; i < 60; i++ {
			from, key := i*i*31%size, (i*i*i*7+i)%size
			for _, far := range []int{1, 2, 3, 1 + i, size / 16, size - 1} {
				checkImag(t, s, from, (from+far)%size, key)
			}
			if i%10 == 0 {
				checkImag(t, s, from, from, key)
			}
		}
	}
}

// Ideal peers at 2, 5 and 11 of 16 by bits, which point at 2, 5 and 5.
func threePeers() impl.Peers {
	return modelIdeal(impl.Space{Bits: 4, Digit: 1}, []int{2, 5, 11}, 1)
}

func TestStartAt(t *testing.T) {
	alone := modelIdeal(impl.Space{Bits: 4, Digit: 2}, []int{7}, 0)
	one := modelIdeal(impl.Space{Bits: 4, Digit: 4}, []int{2, 5, 11}, 0)
	for _, c := range []struct {
		name    string
		p       impl.Peers
		id, key int
		want    impl.Walk
	}{
		{"the key is At", threePeers(), 5, 5, impl.Walk{At: 5, Imag: 5}},
		{"the key is between", threePeers(), 5, 8, impl.Walk{At: 5, Imag: 8}},
		{"the key is its Succ", threePeers(), 5, 11, impl.Walk{At: 5, Imag: 5, Left: 1}},
		{"the key is just ahead of At", threePeers(), 5, 4, impl.Walk{At: 5, Imag: 10, Left: 1}},
		{"past 0", threePeers(), 11, 3, impl.Walk{At: 11, Imag: 1, Left: 1}},
		{"past 0, the key at 0", threePeers(), 11, 0, impl.Walk{At: 11, Imag: 0}},
		{"no digit overlaps", one, 2, 9, impl.Walk{At: 2, Imag: 2, Left: 1}},
		{"alone, the key itself", alone, 7, 3, impl.Walk{At: 7, Imag: 3}},
		{"alone, at it", alone, 7, 7, impl.Walk{At: 7, Imag: 7}},
	} {
		if w, ok := impl.StartAt(c.p, c.id, c.key); w != c.want || !ok {
			t.Error(c.name, "got", w, ok)
		}
	}
	for _, s := range spacesUpTo(8) {
		for _, m := range someFewRings(s) {
			for _, p := range routePeersOf(s, m) {
				for _, key := range routeKeys(s, m) {
					for _, id := range m {
						w, ok := impl.StartAt(p, id, key)
						if w != modelStart(p, id, key) || !ok || !impl.GoodWalk(p, key, w) {
							t.Fatal(p, id, key, "got", w, ok)
						}
					}
				}
			}
		}
	}
}

func TestGoodWalk(t *testing.T) {
	p := threePeers()
	zero := modelIdeal(impl.Space{Bits: 4, Digit: 1}, []int{0, 7}, 0)
	for _, c := range []struct {
		name string
		p    impl.Peers
		key  int
		w    impl.Walk
		want bool
	}{
		{"on", p, 9, impl.Walk{At: 5, Imag: 9, Left: 2, Points: 2, Succs: 1}, true},
		{"found", p, 9, impl.Walk{At: 5, State: impl.WkFound, Owner: 11}, true},
		{"found, another Owner", p, 9, impl.Walk{At: 5, State: impl.WkFound, Owner: 2}, true},
		{"found, none as Owner", p, 9, impl.Walk{At: 5, State: impl.WkFound, Owner: 0}, false},
		{"found, a number as Owner", p, 9, impl.Walk{At: 5, State: impl.WkFound, Owner: 9}, false},
		{"found, 0 is an Id", zero, 9, impl.Walk{At: 7, State: impl.WkFound, Owner: 0}, true},
		{"spent", p, 9, impl.Walk{At: 5, State: impl.WkSpent}, true},
		{"spent, with an Owner", p, 9, impl.Walk{At: 5, State: impl.WkSpent, Owner: 11}, false},
		{"on, with an Owner", p, 9, impl.Walk{At: 5, Owner: 11}, false},
		{"State one above", p, 9, impl.Walk{At: 5, State: 3}, false},
		{"State one below", p, 9, impl.Walk{At: 5, State: -1}, false},
		{"At no Id", p, 9, impl.Walk{At: 9}, false},
		{"no digit is left", p, 9, impl.Walk{At: 5, Left: 0}, true},
		{"all digits are left", p, 9, impl.Walk{At: 5, Left: 4}, true},
		{"more digits are left", p, 9, impl.Walk{At: 5, Left: 5}, false},
		{"fewer than none are left", p, 9, impl.Walk{At: 5, Left: -1}, false},
		{"Imag at the top", p, 9, impl.Walk{At: 5, Imag: 15}, true},
		{"Imag one beyond it", p, 9, impl.Walk{At: 5, Imag: 16}, false},
		{"Imag below 0", p, 9, impl.Walk{At: 5, Imag: -1}, false},
		{"Points and Succs at the limit", p, 9, impl.Walk{At: 5, Points: 1000, Succs: 1000}, true},
		{"Points one below the limit", p, 9, impl.Walk{At: 5, Points: 999, Succs: 999}, true},
		{"Points one beyond the limit", p, 9, impl.Walk{At: 5, Points: 1001}, false},
		{"Succs one beyond the limit", p, 9, impl.Walk{At: 5, Succs: 1001}, false},
		{"the key at the top", p, 15, impl.Walk{At: 5}, true},
		{"the key beyond it", p, 16, impl.Walk{At: 5}, false},
		{"the key below 0", p, -1, impl.Walk{At: 5}, false},
	} {
		if is := impl.GoodWalk(c.p, c.key, c.w); is != c.want {
			t.Error(c.name, "got", is)
		}
	}
}

func TestStepWalk(t *testing.T) {
	p := threePeers()
	wide := modelSet(p, 11, 11, nil)
	alone := modelIdeal(impl.Space{Bits: 4, Digit: 2}, []int{7}, 0)
	one := modelIdeal(impl.Space{Bits: 4, Digit: 4}, []int{2, 5, 11}, 0)
	for _, c := range []struct {
		name     string
		p        impl.Peers
		key, ttl int
		w, want  impl.Walk
	}{
		{"the key is At", p, 5, 100, impl.Walk{At: 5, Imag: 3, Left: 2, Points: 1, Succs: 4},
			impl.Walk{At: 5, Imag: 3, Left: 2, Points: 1, Succs: 4, State: 1, Owner: 5}},
		{"the key is between", p, 6, 100, impl.Walk{At: 5, Imag: 6, Left: 2},
			impl.Walk{At: 5, Imag: 6, Left: 2, State: 1, Owner: 11}},
		{"the key is its Succ", p, 11, 100, impl.Walk{At: 5, Imag: 5, Left: 1},
			impl.Walk{At: 5, Imag: 5, Left: 1, State: 1, Owner: 11}},
		{"the key is past 0", p, 1, 100, impl.Walk{At: 11, Imag: 1}, impl.Walk{At: 11, Imag: 1, State: 1, Owner: 2}},
		{"the key is At, with a ttl of 0", p, 5, 0, impl.Walk{At: 5}, impl.Walk{At: 5, State: 1, Owner: 5}},
		{"the key is its Succ, with a ttl of 0", p, 11, 0, impl.Walk{At: 5, Points: 3}, impl.Walk{At: 5, Points: 3, State: 1, Owner: 11}},
		{"the key is just ahead, with a ttl of 0", p, 4, 0, impl.Walk{At: 5, Imag: 10, Left: 1},
			impl.Walk{At: 5, Imag: 10, Left: 1, State: 2}},
		{"just spent", p, 4, 7, impl.Walk{At: 5, Imag: 10, Left: 1, Points: 3, Succs: 4},
			impl.Walk{At: 5, Imag: 10, Left: 1, Points: 3, Succs: 4, State: 2}},
		{"spent by Points alone", p, 4, 3, impl.Walk{At: 5, Imag: 10, Left: 1, Points: 3},
			impl.Walk{At: 5, Imag: 10, Left: 1, Points: 3, State: 2}},
		{"spent by Succs alone", p, 4, 3, impl.Walk{At: 5, Imag: 10, Left: 1, Succs: 3},
			impl.Walk{At: 5, Imag: 10, Left: 1, Succs: 3, State: 2}},
		{"more than spent", p, 4, 6, impl.Walk{At: 5, Imag: 10, Left: 1, Points: 999, Succs: 999},
			impl.Walk{At: 5, Imag: 10, Left: 1, Points: 999, Succs: 999, State: 2}},
		{"one is still allowed", p, 4, 8, impl.Walk{At: 5, Imag: 10, Left: 1, Points: 3, Succs: 4},
			impl.Walk{At: 5, Imag: 4, Left: 0, Points: 4, Succs: 4}},
		{"a Point, Imag between", p, 13, 100, impl.Walk{At: 5, Imag: 6, Left: 1}, impl.Walk{At: 5, Imag: 13, Points: 1}},
		{"a Point, Imag is At", p, 0b1100, 100, impl.Walk{At: 5, Imag: 5, Left: 3},
			impl.Walk{At: 5, Imag: 0b1011, Left: 2, Points: 1}},
		{"a Point, all digits are left", p, 0b1100, 100, impl.Walk{At: 5, Imag: 5, Left: 4},
			impl.Walk{At: 5, Imag: 0b1011, Left: 3, Points: 1}},
		{"a Point, the last digit", p, 0b1100, 100, impl.Walk{At: 5, Imag: 5, Left: 1},
			impl.Walk{At: 5, Imag: 0b1010, Points: 1}},
		{"a Point, Imag past 0", p, 4, 100, impl.Walk{At: 11, Imag: 1, Left: 2}, impl.Walk{At: 5, Imag: 2, Left: 1, Points: 1}},
		{"a Point that is the Id itself", wide, 4, 100, impl.Walk{At: 11, Imag: 15, Left: 2}, impl.Walk{At: 11, Imag: 14, Left: 1, Points: 1}},
		{"a Point, one digit alone", one, 12, 100, impl.Walk{At: 5, Imag: 7, Left: 1}, impl.Walk{At: 11, Imag: 12, Points: 1}},
		{"no digit is left", p, 13, 100, impl.Walk{At: 5, Imag: 6, Succs: 2}, impl.Walk{At: 11, Imag: 6, Succs: 3}},
		{"Imag is its Succ", p, 13, 100, impl.Walk{At: 5, Imag: 11, Left: 3}, impl.Walk{At: 11, Imag: 11, Left: 3, Succs: 1}},
		{"Imag is just ahead", p, 13, 100, impl.Walk{At: 5, Imag: 4, Left: 3}, impl.Walk{At: 11, Imag: 4, Left: 3, Succs: 1}},
		{"Succ past 0", p, 4, 100, impl.Walk{At: 11, Imag: 4, Left: 3}, impl.Walk{At: 2, Imag: 4, Left: 3, Succs: 1}},
		{"Points come to the limit", p, 13, 1000, impl.Walk{At: 5, Imag: 6, Left: 1, Points: 999},
			impl.Walk{At: 5, Imag: 13, Points: 1000}},
		{"Succs come to the limit", p, 13, 1000, impl.Walk{At: 5, Imag: 6, Succs: 999}, impl.Walk{At: 11, Imag: 6, Succs: 1000}},
		{"both at 999, found", p, 11, 1000, impl.Walk{At: 5, Points: 999, Succs: 999},
			impl.Walk{At: 5, Points: 999, Succs: 999, State: 1, Owner: 11}},
		{"a ttl of 1000, spent", p, 13, 1000, impl.Walk{At: 5, Imag: 6, Points: 1, Succs: 999},
			impl.Walk{At: 5, Imag: 6, Points: 1, Succs: 999, State: 2}},
		{"alone, at it", alone, 7, 0, impl.Walk{At: 7, Imag: 2, Left: 2}, impl.Walk{At: 7, Imag: 2, Left: 2, State: 1, Owner: 7}},
		{"alone, any other", alone, 6, 0, impl.Walk{At: 7, Imag: 2, Left: 2}, impl.Walk{At: 7, Imag: 2, Left: 2, State: 1, Owner: 7}},
	} {
		if w, ok := impl.StepWalk(c.p, c.key, c.ttl, c.w); w != c.want || !ok {
			t.Error(c.name, "got", w, ok)
		}
	}
}

func checkStep(t *testing.T, p impl.Peers, key, ttl int, w impl.Walk) {
	t.Helper()
	var want impl.Walk
	can := modelCanStep(p, key, ttl, w)
	if can {
		want = modelStep(p, key, ttl, w)
	}
	if next, ok := impl.StepWalk(p, key, ttl, w); next != want || ok != can {
		t.Fatal(p, key, ttl, w, "got", next, ok, "want", want, can)
	}
	if can && !impl.GoodWalk(p, key, want) {
		t.Fatal("no good walk comes out", p, key, ttl, w, want)
	}
}

// Every walk of some peers, whether it can step or not, with forwards and ttls
// at their limits.
func TestStepWalkByModel(t *testing.T) {
	rings := map[impl.Space][][]int{
		{Bits: 1, Digit: 1}: {{0}, {0, 1}},
		{Bits: 2, Digit: 1}: {{3}, {1, 2}, {0, 1, 2, 3}},
		{Bits: 3, Digit: 3}: {{2, 5}, {0, 1, 7}},
		{Bits: 4, Digit: 2}: {{2, 5, 11}, {0, 15}, {9}},
	}
	for s, l := range rings {
		for _, m := range l {
			for i, p := range routePeersOf(s, m) {
				for key := -1; key <= powerOf2(s.Bits); key++ {
					checkSteps(t, p, key, i)
				}
			}
		}
	}
}

func checkSteps(t *testing.T, p impl.Peers, key, seed int) {
	t.Helper()
	size, digits := powerOf2(p.Space.Bits), p.Space.Bits/p.Space.Digit
	forwards := [][]int{{0, 0, 0}, {2, 3, 5}, {2, 3, 6}, {999, 999, 1000}, {999, 0, 1000}, {0, 999, 1000},
		{1000, 0, 1000}, {0, 1000, 1000}, {1, 1, 1001}, {0, 0, -1}, {1001, 0, 9}, {0, -1, 9}}
	for at := -1; at <= size; at++ {
		for imag := -1; imag <= size; imag++ {
			for left := -1; left <= digits+1; left++ {
				f := forwards[(at+imag*3+left*5+key*7+seed+16)%len(forwards)]
				w := impl.Walk{At: at, Imag: imag, Left: left, Points: f[0], Succs: f[1]}
				checkStep(t, p, key, f[2], w)
				checkStep(t, p, key, 1000, impl.Walk{At: at, Imag: imag, Left: left, Points: 1, Succs: 1})
				w.State = (at+imag+left+4)%5 - 1
				w.Owner = []int{0, at, imag}[(at+left+2)%3]
				checkStep(t, p, key, f[2], w)
				if is := impl.GoodWalk(p, key, w); is != modelGoodWalk(p, key, w) {
					t.Fatal("GoodWalk", p, key, w, "got", is)
				}
			}
		}
	}
}

func TestRouteOf(t *testing.T) {
	p := threePeers()
	own := samePoint(impl.Space{Bits: 4, Digit: 1}, []int{2, 5, 11})[2]
	alone := modelIdeal(impl.Space{Bits: 4, Digit: 2}, []int{7}, 3)
	for _, c := range []struct {
		name         string
		p            impl.Peers
		id, key, ttl int
		want         impl.Walk
		path         []int
	}{
		{"the key is At", p, 5, 5, 0, impl.Walk{At: 5, Imag: 5, State: 1, Owner: 5}, []int{5}},
		{"the key is its Succ", p, 5, 11, 0, impl.Walk{At: 5, Imag: 5, Left: 1, State: 1, Owner: 11}, []int{5}},
		{"the key is between", p, 11, 0, 0, impl.Walk{At: 11, State: 1, Owner: 2}, []int{11}},
		{"just ahead, by a Point and Succs", p, 5, 4, 1000, impl.Walk{At: 2, Imag: 4, Points: 1, Succs: 2, State: 1, Owner: 5}, []int{5, 5, 11, 2}},
		{"just ahead, just enough", p, 5, 4, 3, impl.Walk{At: 2, Imag: 4, Points: 1, Succs: 2, State: 1, Owner: 5}, []int{5, 5, 11, 2}},
		{"just ahead, one less", p, 5, 4, 2, impl.Walk{At: 11, Imag: 4, Points: 1, Succs: 1, State: 2}, []int{5, 5, 11}},
		{"just ahead, a ttl of 1", p, 5, 4, 1, impl.Walk{At: 5, Imag: 4, Points: 1, State: 2}, []int{5, 5}},
		{"just ahead, a ttl of 0", p, 5, 4, 0, impl.Walk{At: 5, Imag: 10, Left: 1, State: 2}, []int{5}},
		{"past 0", p, 11, 3, 1000, impl.Walk{At: 2, Imag: 3, Points: 1, Succs: 2, State: 1, Owner: 5}, []int{11, 5, 11, 2}},
		{"each points at itself", own, 11, 4, 1000, impl.Walk{At: 2, Imag: 10, Left: 1, Points: 1, Succs: 1, State: 1, Owner: 5}, []int{11, 11, 2}},
		{"alone", alone, 7, 6, 0, impl.Walk{At: 7, Imag: 6, State: 1, Owner: 7}, []int{7}},
		{"alone, a ttl of 1000", alone, 7, 7, 1000, impl.Walk{At: 7, Imag: 7, State: 1, Owner: 7}, []int{7}},
	} {
		if w, path, ok := impl.RouteOf(c.p, c.id, c.key, c.ttl); w != c.want || !sameList(path, c.path) || !ok {
			t.Error(c.name, "got", w, path, ok)
		}
	}
}

func checkRoute(t *testing.T, p impl.Peers, id, key, ttl int) impl.Walk {
	t.Helper()
	want, wantPath := modelRoute(p, id, key, ttl)
	w, path, ok := impl.RouteOf(p, id, key, ttl)
	if w != want || !sameList(path, wantPath) || !ok {
		t.Fatal(p, id, key, ttl, "got", w, path, ok, "want", want, wantPath)
	}
	return w
}

func TestRouteOfByModel(t *testing.T) {
	for _, s := range spacesUpTo(6) {
		for _, m := range someFewRings(s) {
			for _, p := range routePeersOf(s, m) {
				for _, key := range routeKeys(s, m) {
					for i, id := range m {
						w := checkRoute(t, p, id, key, 1000)
						hops := w.Points + w.Succs
						checkRoute(t, p, id, key, hops)
						if hops > 0 {
							checkRoute(t, p, id, key, hops-1)
							checkRoute(t, p, id, key, i%hops)
						}
					}
				}
			}
		}
	}
	for _, s := range []impl.Space{{Bits: 9, Digit: 3}, {Bits: 12, Digit: 1}, {Bits: 12, Digit: 4}, {Bits: 12, Digit: 12}} {
		for _, m := range someFewRings(s) {
			for _, p := range routePeersOf(s, m)[:2] {
				for _, key := range routeKeys(s, m)[2:7] {
					checkRoute(t, p, m[len(m)/2], key, 1000)
				}
			}
		}
	}
}

// A way is StepWalk again and again from StartAt on.
func TestRouteOfIsStepByStep(t *testing.T) {
	for _, s := range spacesUpTo(12) {
		for _, m := range someFewRings(s) {
			for i, p := range routePeersOf(s, m) {
				for k, key := range routeKeys(s, m) {
					id := m[(i+k)%len(m)]
					for _, ttl := range []int{0, 1, 3, 1000} {
						checkStepByStep(t, p, id, key, ttl)
					}
				}
			}
		}
	}
}

func checkStepByStep(t *testing.T, p impl.Peers, id, key, ttl int) {
	t.Helper()
	w, ok := impl.StartAt(p, id, key)
	if !ok {
		t.Fatal("no start", p, id, key)
	}
	way := []int{w.At}
	for {
		if w, ok = impl.StepWalk(p, key, ttl, w); !ok {
			t.Fatal("no step", p, id, key, ttl, way)
		}
		if w.State != impl.WkOn {
			break
		}
		way = append(way, w.At)
	}
	if r, path, ok := impl.RouteOf(p, id, key, ttl); r != w || !sameList(path, way) || !ok {
		t.Fatal(p, id, key, ttl, "got", r, path, ok, "want", w, way)
	}
}

func TestBoundOf(t *testing.T) {
	for _, c := range []struct {
		s    impl.Space
		m    []int
		want int
	}{
		{impl.Space{Bits: 4, Digit: 1}, []int{0, 4, 8, 12}, 19},
		{impl.Space{Bits: 4, Digit: 2}, []int{2, 5, 11}, 8},
		{impl.Space{Bits: 4, Digit: 4}, []int{2, 5, 11}, 5},
		{impl.Space{Bits: 4, Digit: 1}, []int{7}, 4},
		{impl.Space{Bits: 12, Digit: 12}, []int{7}, 1},
		{impl.Space{Bits: 1, Digit: 1}, []int{0, 1}, 3},
		{impl.Space{Bits: 12, Digit: 1}, []int{0, 1, 2, 3, 4, 5, 6, 7, 8, 9, 10, 11, 12, 13, 14, 15}, 207},
	} {
		for _, p := range routePeersOf(c.s, c.m) {
			if n, ok := impl.BoundOf(p); n != c.want || !ok {
				t.Error(c, p, "got", n, ok)
			}
		}
	}
	for _, s := range spacesUpTo(12) {
		for _, m := range ringsOf(s) {
			want := s.Bits / s.Digit
			for range m[1:] {
				want += s.Bits/s.Digit + 1
			}
			if n, ok := impl.BoundOf(strayPeers(s, m, 3)); n != want || !ok {
				t.Fatal(s, m, "got", n, ok)
			}
		}
	}
}

func TestHopsIn(t *testing.T) {
	p := threePeers()
	for _, c := range []struct {
		key  int
		want []int
	}{{4, []int{0, 3, 4}}, {5, []int{0, 0, 1}}, {6, []int{2, 0, 1}}, {1, []int{4, 2, 0}}, {0, []int{4, 2, 0}}} {
		if l, ok := impl.HopsIn(p, c.key); !sameList(l, c.want) || !ok {
			t.Error(c.key, "got", l, ok, "want", c.want)
		}
	}
	alone := modelIdeal(impl.Space{Bits: 4, Digit: 2}, []int{7}, 0)
	if l, ok := impl.HopsIn(alone, 6); !sameList(l, []int{0}) || !ok {
		t.Error("alone", l, ok)
	}
	for _, s := range spacesUpTo(12) {
		for _, m := range someFewRings(s) {
			for _, p := range routePeersOf(s, m) {
				for _, key := range routeKeys(s, m) {
					checkHops(t, p, key)
				}
			}
		}
	}
}

func checkHops(t *testing.T, p impl.Peers, key int) {
	t.Helper()
	l, ok := impl.HopsIn(p, key)
	if !ok || len(l) != len(p.List) {
		t.Fatal(p, key, "got", l, ok)
	}
	for i, peer := range p.List {
		w, path, _ := impl.RouteOf(p, peer.Id, key, 1000)
		if l[i] != w.Points+w.Succs || l[i] != len(path)-1 {
			t.Fatal(p, key, "got", l, "for", i, "want", w, path)
		}
	}
}
