package corner_test

import (
	"math/rand"
	"slices"
	"testing"

	"contango/api"
	"contango/corner"
)

// bounds calls Shortage, which must have no error.
func bounds(t *testing.T, m corner.Market) corner.Range {
	t.Helper()
	x, e := corner.Shortage(m)
	if e != api.OK {
		t.Fatalf("Shortage of %v: %v, %v", m, x, e)
	}
	return x
}

// cornered calls Cornered, which must have no error.
func cornered(t *testing.T, m corner.Market) (sure, may bool) {
	t.Helper()
	sure, may, e := corner.Cornered(m)
	if e != api.OK {
		t.Fatalf("Cornered of %v: %v, %v, %v", m, sure, may, e)
	}
	return sure, may
}

// essential calls Essential, which must have no error.
func essential(t *testing.T, m corner.Market) (sure, may []int) {
	t.Helper()
	sure, may, e := corner.Essential(m)
	if e != api.OK {
		t.Fatalf("Essential of %v: %v, %v, %v", m, sure, may, e)
	}
	return sure, may
}

// theCorner calls Corner, and returns whether there is one.
func theCorner(t *testing.T, m corner.Market) ([]int, bool) {
	t.Helper()
	l, e := corner.Corner(m)
	if e != api.OK && (e != api.ErrNone || l != nil) {
		t.Fatalf("Corner of %v: %v, %v", m, l, e)
	}
	return l, e == api.OK
}

// settle calls Settle, and returns whether there is a settlement.
func settle(t *testing.T, m corner.Market, truth []int) ([]corner.Sale, int, bool) {
	t.Helper()
	l, cost, e := corner.Settle(m, truth)
	if e != api.OK && (e != api.ErrShort || l != nil || cost != 0) {
		t.Fatalf("Settle of %v, %v: %v, %d, %v", m, truth, l, cost, e)
	}
	return l, cost, e == api.OK
}

// leave calls Leave, which must have no error.
func leave(t *testing.T, m corner.Market) []int {
	t.Helper()
	l, e := corner.Leave(m)
	if e != api.OK {
		t.Fatalf("Leave of %v: %v, %v", m, l, e)
	}
	return l
}

// TestP11_1Oracle compares Needs and ProveTruth with the definitions, for truths and
// for lists near them.
func TestP11_1Oracle(t *testing.T) {
	r := rand.New(rand.NewSource(1))
	needed, right, wrong := 0, 0, 0
	for range 2000 {
		m := smallMarket(r)
		all := allTruths(m)
		for range 5 {
			truth := slices.Clone(pick(r, all...))
			for range pick(r, 0, 0, 1, 2) {
				truth[r.Intn(len(truth))] += pick(r, -1, 1)
			}
			isOne := slices.ContainsFunc(all, func(x []int) bool { return slices.Equal(x, truth) })
			needs, spare, e := corner.Needs(m, truth)
			if corner.ProveTruth(m, truth) != isOne || (e == api.OK) != isOne {
				t.Fatalf("Needs, ProveTruth of %v, %v: %v; want %v", m, truth, e, isOne)
			}
			if !isOne {
				wrong++
				continue
			}
			right++
			for house := range m.Houses {
				if needs[house] != needOf(m, truth, house) || spare[house] != spareOf(m, truth, house) {
					t.Fatalf("Needs of %v, %v: %v, %v", m, truth, needs, spare)
				}
				needed += min(needs[house], 1)
			}
		}
	}
	if needed < 1000 || right < 3000 || wrong < 2000 {
		t.Errorf("needs: %d; truths: %d; other lists: %d", needed, right, wrong)
	}
}

// TestP11_2Oracle compares Shortage and Show with all truths.
func TestP11_2Oracle(t *testing.T) {
	unsure := 0
	for _, m := range markets(2, 4000) {
		all := allTruths(m)
		want := boundsOf(m, all)
		if got := bounds(t, m); got != want {
			t.Fatalf("Shortage of %v: %v; want %v", m, got, want)
		}
		checkShown(t, m, want)
		if want.Lo < want.Hi {
			unsure++
		}
	}
	if unsure < 1000 {
		t.Errorf("only %d shortages that are not known", unsure)
	}
}

// checkShown checks that Show returns truths in which the shortage is at these ends.
func checkShown(t *testing.T, m corner.Market, want corner.Range) {
	t.Helper()
	for high, due := range map[bool]int{false: want.Lo, true: want.Hi} {
		truth, e := corner.Show(m, high)
		if e != api.OK || !corner.ProveTruth(m, truth) || shortageOf(m, truth) != due {
			t.Fatalf("Show of %v, %v: %v, %v; want %d", m, high, truth, e, due)
		}
	}
}

// TestP11_2Wide compares them for ranges with many truths.
func TestP11_2Wide(t *testing.T) {
	r := rand.New(rand.NewSource(22))
	unsure := 0
	for range 300 {
		m := wideMarket(r)
		want := forward(m)
		if got := bounds(t, m); got != want {
			t.Fatalf("Shortage of %v: %v; want %v", m, got, want)
		}
		checkShown(t, m, want)
		if want.Hi-want.Lo > 5 {
			unsure++
		}
	}
	if unsure < 100 {
		t.Errorf("only %d shortages of wide bounds", unsure)
	}
}

// TestP11_3Oracle compares Cornered with all truths.
func TestP11_3Oracle(t *testing.T) {
	is := map[[2]bool]int{}
	for _, m := range markets(3, 4000) {
		want := boundsOf(m, allTruths(m))
		sure, may := cornered(t, m)
		if sure != (want.Lo > 0) || may != (want.Hi > 0) {
			t.Fatalf("Cornered of %v: %v, %v; want %v", m, sure, may, want)
		}
		is[[2]bool{sure, may}]++
	}
	if is[[2]bool{true, true}] < 300 || is[[2]bool{false, true}] < 100 || is[[2]bool{false, false}] < 1000 {
		t.Errorf("surely and perhaps cornered: %v", is)
	}
}

// TestP11_4Oracle compares Essential with all truths, and Corner with all lists.
func TestP11_4Oracle(t *testing.T) {
	sure, may, none, long := 0, 0, 0, map[int]int{}
	for _, m := range markets(4, 3000) {
		all := allTruths(m)
		var always, some []int
		for house, h := range m.Houses {
			without := boundsOf(shut(m, house), all)
			if h.Sells && without.Lo > 0 {
				always = append(always, house)
			}
			if h.Sells && without.Hi > 0 {
				some = append(some, house)
			}
		}
		a, b := essential(t, m)
		if !slices.Equal(a, always) || !slices.Equal(b, some) {
			t.Fatalf("Essential of %v: %v, %v; want %v, %v", m, a, b, always, some)
		}
		want, found := smallest(m, func(l []int) bool { return isCorner(m, all, l) })
		if got, ok := theCorner(t, m); !slices.Equal(got, want) || ok != found {
			t.Fatalf("Corner of %v: %v, %v; want %v, %v", m, got, ok, want, found)
		}
		sure, may = sure+len(always), may+len(some)
		if found {
			long[len(want)]++
		} else {
			none++
		}
	}
	if sure < 500 || may-sure < 300 || none < 500 || long[0] < 300 || long[1] < 300 || long[2] < 100 || long[3] < 10 {
		t.Errorf("essential: %d; perhaps: %d; no corner: %d; corners by their lengths: %v", sure, may, none, long)
	}
}

// TestP11_5Oracle compares Settle with all ways to sell, and ProveSettled with the
// definitions, for settlements and for sales near them.
func TestP11_5Oracle(t *testing.T) {
	r := rand.New(rand.NewSource(5))
	many, none, right, wrong := 0, 0, 0, 0
	for _, m := range markets(5, 3000) {
		truth := pick(r, allTruths(m)...)
		want := cheapest(m, truth)
		l, cost, ok := settle(t, m, truth)
		if ok != (want >= 0) {
			t.Fatalf("Settle of %v, %v: %v, %d; want %d", m, truth, l, cost, want)
		}
		if !ok {
			none++
			continue
		}
		if cost != want || costOf(m, l) != cost || !isSettled(m, truth, l) {
			t.Fatalf("Settle of %v, %v: %v, %d; want %d", m, truth, l, cost, want)
		}
		if len(l) > 0 {
			many++
		}
		for range 3 {
			tried, most := changed(r, m, someSettlement(r, m, truth)), cost+r.Intn(5)
			due := isSettled(m, truth, tried) && costOf(m, tried) <= most
			if corner.ProveSettled(m, truth, tried, most) != due {
				t.Fatalf("ProveSettled of %v, %v, %v, %d; want %v", m, truth, tried, most, due)
			}
			if due && len(tried) > 0 {
				right++
			} else if len(tried) > 0 {
				wrong++
			}
		}
	}
	if many < 500 || none < 500 || right < 300 || wrong < 1000 {
		t.Errorf("settlements: %d; none: %d; proved: %d; not: %d", many, none, right, wrong)
	}
}

// changed returns the sales, or others that differ little.
func changed(r *rand.Rand, m corner.Market, l []corner.Sale) []corner.Sale {
	if len(l) == 0 || r.Intn(2) == 0 {
		return l
	}
	s := &l[r.Intn(len(l))]
	switch r.Intn(5) {
	case 0:
		s.Shares += pick(r, -1, 1)
	case 1:
		s.From = r.Intn(len(m.Houses))
	case 2:
		s.To = r.Intn(len(m.Houses))
	case 3:
		*s = l[0]
	case 4:
		l = l[1:]
	}
	return l
}

// askew returns a market of which the holdings often contradict each other.
func askew(r *rand.Rand) corner.Market {
	m := smallMarket(r)
	for range r.Intn(4) {
		h := &m.Houses[r.Intn(len(m.Houses))]
		n := r.Intn(m.Exist + 3)
		h.Held = to(n, n+r.Intn(3))
	}
	return m
}

// TestP11_6Oracle compares Leave with all lists.
func TestP11_6Oracle(t *testing.T) {
	r := rand.New(rand.NewSource(6))
	long := map[int]int{}
	for range 8000 {
		m := askew(r)
		want, _ := smallest(m, func(l []int) bool { return canHave(leftOut(m, l)) })
		if got := leave(t, m); !slices.Equal(got, want) {
			t.Fatalf("Leave of %v: %v; want %v", m, got, want)
		}
		if canHave(m) != (len(allTruths(m)) > 0) {
			t.Fatalf("the oracle's truths of %v", m)
		}
		long[len(want)]++
	}
	if long[0] < 2000 || long[1] < 2000 || long[2] < 200 || long[3] < 5 {
		t.Errorf("smallest sets by their lengths: %v", long)
	}
}

// TestP11_7InEachTruth: all positions together are Exist; the shortage is within its
// bounds, of which both ends are reached.
func TestP11_7InEachTruth(t *testing.T) {
	for _, m := range markets(7, 1500) {
		whole := clone(m)
		for i := range whole.Houses {
			whole.Houses[i].Sells = true
		}
		x, low, high := bounds(t, m), false, false
		for _, truth := range allTruths(m) {
			if shortage(t, whole, truth) != -m.Exist {
				t.Fatalf("the positions of %v, %v are not %d together", m, truth, m.Exist)
			}
			n := shortage(t, m, truth)
			if n < x.Lo || n > x.Hi {
				t.Fatalf("the shortage of %v, %v is %d, not within %v", m, truth, n, x)
			}
			low, high = low || n == x.Lo, high || n == x.Hi
		}
		if !low || !high {
			t.Fatalf("the bounds of %v are %v, but not reached: %v, %v", m, x, low, high)
		}
		if y := bounds(t, whole); y != to(-m.Exist, -m.Exist) {
			t.Fatalf("Shortage of %v, in which all would sell: %v", whole, y)
		}
	}
}

// TestP11_8Cornered: the stock is surely cornered if the minimum of the shortage is
// above 0, and may be if the maximum is; there is a settlement if it is not.
func TestP11_8Cornered(t *testing.T) {
	for _, m := range markets(8, 1500) {
		x := bounds(t, m)
		if sure, may := cornered(t, m); sure != (x.Lo > 0) || may != (x.Hi > 0) {
			t.Fatalf("Cornered of %v: %v, %v; the shortage is %v", m, sure, may, x)
		}
		for _, truth := range allTruths(m) {
			if _, _, ok := settle(t, m, truth); ok != (shortage(t, m, truth) <= 0) {
				t.Fatalf("Settle of %v, %v: %v", m, truth, ok)
			}
		}
	}
}

// TestP11_9Cheapest: a settlement has its cost, and no other one costs less.
func TestP11_9Cheapest(t *testing.T) {
	r := rand.New(rand.NewSource(9))
	dearer := 0
	for range 2000 {
		m := pick(r, smallMarket, wideMarket)(r)
		truth, e := corner.Show(m, r.Intn(2) == 0)
		if e != api.OK {
			t.Fatalf("Show of %v: %v", m, e)
		}
		l, cost, ok := settle(t, m, truth)
		if !ok {
			continue
		}
		if costOf(m, l) != cost || !corner.ProveSettled(m, truth, l, cost) || corner.ProveSettled(m, truth, l, cost-1) {
			t.Fatalf("Settle of %v, %v: %v, %d", m, truth, l, cost)
		}
		for range 5 {
			other := someSettlement(r, m, truth)
			n := costOf(m, other)
			if n < cost || !corner.ProveSettled(m, truth, other, n) {
				t.Fatalf("Settle of %v, %v: %d; but %v costs %d", m, truth, cost, other, n)
			}
			if n > cost {
				dearer++
			}
		}
	}
	if dearer < 500 {
		t.Errorf("only %d settlements that are dearer", dearer)
	}
}

// TestP11_10NobodySells: if one house more would not sell, nothing is less cornered.
func TestP11_10NobodySells(t *testing.T) {
	more, less := 0, 0
	for _, m := range markets(10, 1500) {
		all, x := allTruths(m), bounds(t, m)
		sure, may := cornered(t, m)
		for house, h := range m.Houses {
			if !h.Sells {
				continue
			}
			without := shut(m, house)
			for _, truth := range all {
				if shortage(t, without, truth) < shortage(t, m, truth) {
					t.Fatalf("without %d: Needs of %v, %v", house, m, truth)
				}
			}
			y := bounds(t, without)
			always, some := cornered(t, without)
			if y.Lo < x.Lo || y.Hi < x.Hi || sure && !always || may && !some {
				t.Fatalf("without %d: %v has %v, not %v; %v, %v, not %v, %v", house, m, y, x, always, some, sure, may)
			}
			if y != x {
				more++
			} else {
				less++
			}
		}
	}
	if more < 500 || less < 100 {
		t.Errorf("greater: %d; the same: %d", more, less)
	}
}

// TestP11_11Essential: each essential holder may be one, and alone is a corner; a
// corner with one house more still is one.
func TestP11_11Essential(t *testing.T) {
	holders, longer := 0, 0
	for _, m := range markets(11, 3000) {
		sure, may := essential(t, m)
		for _, house := range sure {
			always, _ := cornered(t, shut(m, house))
			if !slices.Contains(may, house) || !always {
				t.Fatalf("Essential of %v: %v, %v; without %d: %v", m, sure, may, house, always)
			}
			holders++
		}
		l, ok := theCorner(t, m)
		if ok && len(sure) > 0 && len(l) > 1 {
			t.Fatalf("Corner of %v: %v; but each of %v is one", m, l, sure)
		}
		if ok {
			longer += checkLonger(t, m, l)
		}
	}
	if holders < 500 || longer < 500 {
		t.Errorf("essential holders: %d; longer corners: %d", holders, longer)
	}
}

// checkLonger checks that the list is a corner, and still is one with one house more,
// and returns how many there are.
func checkLonger(t *testing.T, m corner.Market, l []int) (many int) {
	t.Helper()
	if sure, _ := cornered(t, shut(m, l...)); !sure {
		t.Fatalf("Corner of %v: %v", m, l)
	}
	for house, h := range m.Houses {
		if h.Sells && !slices.Contains(l, house) {
			many++
			if sure, _ := cornered(t, shut(m, append(slices.Clone(l), house)...)); !sure {
				t.Fatalf("%v is a corner of %v, but not with %d", l, m, house)
			}
		}
	}
	return many
}

// TestP11_12Wider: with a wider Held of a house no bounds are narrower.
func TestP11_12Wider(t *testing.T) {
	r := rand.New(rand.NewSource(12))
	wider := 0
	for range 3000 {
		m := pick(r, smallMarket, smallMarket, smallMarket, wideMarket)(r)
		wide := clone(m)
		held := &wide.Houses[r.Intn(len(wide.Houses))].Held
		*held = to(max(held.Lo-r.Intn(3), 0), min(held.Hi+r.Intn(3), api.MaxCornerShares))
		x, y := bounds(t, m), bounds(t, wide)
		sure, may := cornered(t, m)
		always, some := cornered(t, wide)
		if y.Lo > x.Lo || y.Hi < x.Hi || always && !sure || may && !some {
			t.Fatalf("%v has %v, %v, %v; wider, %v, it has %v, %v, %v", m, x, sure, may, wide, y, always, some)
		}
		if y != x {
			wider++
		}
	}
	if wider < 200 {
		t.Errorf("only %d bounds that are wider", wider)
	}
}

// TestP11_13Dearer: with a greater Ask of a house no settlement is cheaper; with all
// Asks greater by the same number it costs this number more for each share.
func TestP11_13Dearer(t *testing.T) {
	r := rand.New(rand.NewSource(13))
	many, dearer := 0, 0
	for _, m := range markets(13, 5000) {
		truth := pick(r, allTruths(m)...)
		_, cost, ok := settle(t, m, truth)
		if !ok {
			continue
		}
		needs, _, _ := corner.Needs(m, truth)
		one, all := clone(m), clone(m)
		n := r.Intn(5)
		for i := range all.Houses {
			// Asks have a greatest number.
			all.Houses[i].Ask = min(m.Houses[i].Ask, api.MaxCornerAsk-n)
		}
		_, before, _ := settle(t, all, truth)
		for i := range all.Houses {
			all.Houses[i].Ask += n
		}
		h := &one.Houses[r.Intn(len(one.Houses))]
		h.Ask = min(h.Ask+n, api.MaxCornerAsk)
		_, x, _ := settle(t, one, truth)
		_, y, _ := settle(t, all, truth)
		if x < cost || y != before+n*total(needs) {
			t.Fatalf("Settle of %v, %v: %d; dearer %d; of all %d and %d", m, truth, cost, x, before, y)
		}
		many += min(total(needs), 1)
		if x > cost {
			dearer++
		}
	}
	if many < 500 || dearer < 100 {
		t.Errorf("settlements: %d; dearer: %d", many, dearer)
	}
}

// hasTruth reports whether the market has a truth, by Shortage.
func hasTruth(t *testing.T, m corner.Market) bool {
	t.Helper()
	_, e := corner.Shortage(m)
	if e != api.OK && e != api.ErrFail {
		t.Fatalf("Shortage of %v: %v", m, e)
	}
	return e == api.OK
}

// TestP11_14LeftOut: without the smallest set there is a truth; without any shorter
// list there is none.
func TestP11_14LeftOut(t *testing.T) {
	r := rand.New(rand.NewSource(14))
	tried := 0
	for range 3000 {
		m := askew(r)
		l := leave(t, m)
		if !hasTruth(t, leftOut(m, l)) || hasTruth(t, m) != (len(l) == 0) {
			t.Fatalf("Leave of %v: %v", m, l)
		}
		for set := range 1 << len(m.Houses) {
			if x := subset(set); len(x) < len(l) {
				tried++
				if hasTruth(t, leftOut(m, x)) {
					t.Fatalf("Leave of %v: %v; but %v is enough", m, l, x)
				}
			}
		}
	}
	if tried < 1500 {
		t.Errorf("only %d shorter lists", tried)
	}
}

// isSame reports whether calls return the same of both markets.
func isSame(t *testing.T, m, other corner.Market) bool {
	t.Helper()
	sure, may := cornered(t, m)
	always, some := cornered(t, other)
	a, b := essential(t, m)
	c, d := essential(t, other)
	l, isOne := theCorner(t, m)
	k, isOther := theCorner(t, other)
	isSame := bounds(t, m) == bounds(t, other) && sure == always && may == some && isOne == isOther
	return isSame && slices.Equal(a, c) && slices.Equal(b, d) && slices.Equal(l, k)
}

// TestP11_15Against: a contract and one against it change nothing; contracts of
// houses that would sell change no shortage.
func TestP11_15Against(t *testing.T) {
	r := rand.New(rand.NewSource(15))
	sellers := 0
	for _, m := range markets(15, 3000) {
		if len(m.Houses) == 1 || len(m.Contracts) > api.MaxCornerContracts-2 {
			continue
		}
		c := someContract(r, len(m.Houses), api.MaxCornerShares)
		both := owing(m, c, owes(c.Long, c.Short, c.Shares))
		if !isSame(t, m, both) {
			t.Fatalf("%v changes with a contract and one against it, %v", m, c)
		}
		one, isOfSellers := owing(m, c), m.Houses[c.Short].Sells && m.Houses[c.Long].Sells
		if isOfSellers && bounds(t, one) != bounds(t, m) {
			t.Fatalf("the shortage of %v changes with %v", m, c)
		}
		for _, truth := range allTruths(m) {
			needs, spare, _ := corner.Needs(m, truth)
			n, s, _ := corner.Needs(both, truth)
			if !slices.Equal(n, needs) || !slices.Equal(s, spare) {
				t.Fatalf("Needs of %v, %v change with a contract and one against it, %v", m, truth, c)
			}
			if isOfSellers && shortage(t, one, truth) != shortage(t, m, truth) {
				t.Fatalf("the shortage of %v, %v changes with %v", m, truth, c)
			}
		}
		if isOfSellers {
			sellers++
		}
	}
	if sellers < 300 {
		t.Errorf("only %d contracts of sellers", sellers)
	}
}

// TestP7AnyOrder: in whatever order contracts are listed, all is the same; houses in
// another order lead to the same numbers.
func TestP7AnyOrder(t *testing.T) {
	r := rand.New(rand.NewSource(70))
	for range 1500 {
		m := smallMarket(r)
		other := clone(m)
		r.Shuffle(len(other.Contracts), func(i, j int) {
			other.Contracts[i], other.Contracts[j] = other.Contracts[j], other.Contracts[i]
		})
		if !isSame(t, m, other) {
			t.Fatalf("%v has changed with the order of contracts: %v", m, other)
		}
		order := r.Perm(len(m.Houses))
		for i, house := range order {
			other.Houses[house] = m.Houses[i]
		}
		for i, c := range other.Contracts {
			other.Contracts[i] = owes(order[c.Short], order[c.Long], c.Shares)
		}
		sure, may := cornered(t, m)
		always, some := cornered(t, other)
		l, _ := theCorner(t, m)
		k, _ := theCorner(t, other)
		if bounds(t, m) != bounds(t, other) || sure != always || may != some || len(l) != len(k) {
			t.Fatalf("%v has changed with the order of houses: %v", m, other)
		}
	}
}
