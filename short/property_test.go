package short_test

import (
	"math/rand"
	"slices"
	"testing"

	"contango/api"
	"contango/sheet"
	"contango/short"
)

// clone returns the ledger in memory of its own.
func clone(l short.Ledger) short.Ledger {
	l.Register.Start, l.Register.Entries = slices.Clone(l.Register.Start), slices.Clone(l.Register.Entries)
	l.Register.Sights = slices.Clone(l.Register.Sights)
	l.Lends, l.Dues = slices.Clone(l.Lends), slices.Clone(l.Dues)
	return l
}

// hands returns what Hands does, which must have no error.
func hands(t *testing.T, l short.Ledger) [][]int {
	t.Helper()
	list, e := short.Hands(l)
	if e != api.OK {
		t.Fatalf("Hands of %v: %v", l, e)
	}
	return list
}

// best returns what Best does, which must have no error.
func best(t *testing.T, l short.Ledger, hand []int) (deliveries []int, bought int) {
	t.Helper()
	deliveries, bought, e := short.Best(l, hand)
	if e != api.OK {
		t.Fatalf("Best of %v with %v: %v", l, hand, e)
	}
	return deliveries, bought
}

// buyIns returns what BuyIns does, which must have no error.
func buyIns(t *testing.T, l short.Ledger) short.Range {
	t.Helper()
	x, e := short.BuyIns(l)
	if e != api.OK {
		t.Fatalf("BuyIns of %v: %v", l, e)
	}
	return x
}

// verdicts returns what Verdicts does, which must have no error.
func verdicts(t *testing.T, l short.Ledger) []int {
	t.Helper()
	list, e := short.Verdicts(l)
	if e != api.OK {
		t.Fatalf("Verdicts of %v: %v", l, e)
	}
	return list
}

// enough returns what Enough does, and whether there is such a list.
func enough(t *testing.T, l short.Ledger) ([]int, bool) {
	t.Helper()
	list, e := short.Enough(l)
	if e != api.OK && e != api.ErrShort {
		t.Fatalf("Enough of %v: %v", l, e)
	}
	return list, e == api.OK
}

// TestP8_1Oracle compares Hands with all truths. Where the sheets depend on each
// other, not all hands are possible that the holders of each one allow.
func TestP8_1Oracle(t *testing.T) {
	many, dependent := map[int]int{}, 0
	for _, l := range ledgers(3000) {
		want := allHands(l)
		if got := hands(t, l); !slices.EqualFunc(got, want, slices.Equal) {
			t.Fatalf("Hands of %v: %v; want %v", l, got, want)
		}
		many[len(want)]++
		if len(want) < len(allPlaced(t, l)) {
			dependent++
		}
	}
	if many[1] < 500 || many[2] < 300 || many[3] < 100 || many[4] < 100 || dependent < 50 {
		t.Errorf("ledgers by how many hands are possible: %v; where sheets depend on each other: %d", many, dependent)
	}
}

// allPlaced returns all hands that the holders of each sheet alone allow.
func allPlaced(t *testing.T, l short.Ledger) [][]int {
	list := [][]int{make([]int, l.Register.Houses)}
	for number := range l.Register.Start {
		houses, e := sheet.Holders(l.Register, number, l.Day)
		if e != api.OK {
			t.Fatalf("Holders of %v: %v", l.Register, e)
		}
		var next [][]int
		for _, hand := range list {
			for _, house := range houses {
				more := slices.Clone(hand)
				more[house]++
				next = append(next, more)
			}
		}
		slices.SortFunc(next, slices.Compare)
		list = slices.CompactFunc(next, slices.Equal)
	}
	return list
}

// TestP8_1Contradiction: of spoilt registers those that have no truth have no hands.
func TestP8_1Contradiction(t *testing.T) {
	r := rand.New(rand.NewSource(1))
	is := map[api.Errno]int{}
	for _, l := range ledgers(1000) {
		l := clone(l)
		if len(l.Register.Entries) == 0 {
			continue
		}
		x := &l.Register.Entries[r.Intn(len(l.Register.Entries))]
		x.Kind, x.Sheet = between(r, sheet.Pass, sheet.Return), r.Intn(len(l.Register.Start))
		want := api.OK
		if len(allHands(l)) == 0 {
			want = api.ErrFail
		}
		for _, got := range callAll(l, make([]int, l.Register.Houses)) {
			isOfHands := slices.Contains([]string{"Hands", "BuyIns", "Verdicts", "Enough"}, got.call)
			if isOfHands && (got.e == api.ErrFail) != (want == api.ErrFail) || got.e == api.ErrFail && !isZero(got.value) {
				t.Fatalf("%s of %v: %v, %v; want %v", got.call, l, got.value, got.e, want)
			}
		}
		is[want]++
	}
	if is[api.OK] < 200 || is[api.ErrFail] < 200 {
		t.Errorf("errors: %v", is)
	}
}

// TestP8_2Oracle compares Best with all deliveries, with hands that need not be possible.
func TestP8_2Oracle(t *testing.T) {
	r := rand.New(rand.NewSource(2))
	bought, several := map[int]int{}, 0
	for _, l := range smallLedgers(3000) {
		hand := someHand(r, l)
		want, _ := bestOf(l, hand)
		got, n := best(t, l, hand)
		if !slices.Equal(got, want) || n != boughtBy(l, want) {
			t.Fatalf("Best of %v with %v: %v, %d; want %v", l, hand, got, n, want)
		}
		bought[min(n, 3)]++
		others := 0
		eachDeliveries(l, func(x []int) {
			if areMade(l, hand, x) && total(x) == total(want) {
				others++
			}
		})
		if others > 1 {
			several++
		}
	}
	if bought[0] < 500 || bought[1] < 200 || bought[2] < 200 || bought[3] < 200 || several < 200 {
		t.Errorf("what is bought in: %v; several are as good: %d", bought, several)
	}
}

// TestP8_2GreatNumbers does so with as many dues, and as great ones, as there may be.
func TestP8_2GreatNumbers(t *testing.T) {
	r := rand.New(rand.NewSource(22))
	bought := 0
	for range 100 {
		l := short.Ledger{Register: sheet.Register{Houses: 4, Start: row(0)}, Lends: lent(4, r.Intn(4), r.Intn(4))}
		for range api.MaxShortDues {
			l.Dues = append(l.Dues, someDue(r, l, pick(r, 3, 4, 4)))
		}
		hand := someHand(r, l)
		want, _ := bestOf(l, hand)
		got, n := best(t, l, hand)
		if !slices.Equal(got, want) || n != boughtBy(l, want) {
			t.Fatalf("Best of %v with %v: %v, %d; want %v", l, hand, got, n, want)
		}
		bought += min(n, 1)
	}
	if bought < 30 {
		t.Errorf("something is bought in: %d", bought)
	}
}

// TestP8_2Changed compares ProveDeliveries with the definitions, of any deliveries.
func TestP8_2Changed(t *testing.T) {
	r := rand.New(rand.NewSource(222))
	is := map[bool]int{}
	for _, l := range ledgers(5000) {
		hand := someHand(r, l)
		deliveries, _ := best(t, l, hand)
		for i, d := range l.Dues {
			if r.Intn(3) == 0 {
				deliveries[i] = between(r, max(-1, deliveries[i]-2), d.Number+r.Intn(2))
			}
		}
		isWithin := true
		for i, d := range l.Dues {
			isWithin = isWithin && deliveries[i] >= 0 && deliveries[i] <= d.Number
		}
		bought := boughtBy(l, deliveries) + pick(r, -1, 0, 0, 1)
		want := isWithin && areMade(l, hand, deliveries) && boughtBy(l, deliveries) <= bought
		if got := short.ProveDeliveries(l, hand, deliveries, bought); got != want {
			t.Fatalf("ProveDeliveries of %v, %v, %v, %d: %v", l, hand, deliveries, bought, got)
		}
		if len(l.Dues) > 0 {
			is[want]++
		}
	}
	if is[true] < 1000 || is[false] < 1000 {
		t.Errorf("proofs: %v", is)
	}
}

// TestP8_3Oracle, of P8.4 and P8.5, too, compares what is returned of all possible
// hands with the definitions.
func TestP8_3Oracle(t *testing.T) {
	unsure, isShort := 0, 0
	is, lengths := map[int]int{}, map[int]int{}
	for _, l := range smallLedgers(3000) {
		want := dueOf(l, allHands(l))
		if got := buyIns(t, l); got != want.buyIns {
			t.Fatalf("BuyIns of %v: %v; want %v", l, got, want.buyIns)
		}
		if got := verdicts(t, l); !slices.Equal(got, want.verdicts) {
			t.Fatalf("Verdicts of %v: %v; want %v", l, got, want.verdicts)
		}
		if got, e := short.Enough(l); !slices.Equal(got, want.enough) || e != want.e {
			t.Fatalf("Enough of %v: %v, %v; want %v, %v", l, got, e, want.enough, want.e)
		}
		if want.buyIns.Lo < want.buyIns.Hi {
			unsure++
		}
		for _, verdict := range want.verdicts {
			is[verdict]++
		}
		if want.e != api.OK {
			isShort++
		} else {
			lengths[len(want.enough)]++
		}
	}
	if unsure < 200 || is[short.Always] < 1000 || is[short.Never] < 500 || is[short.Open] < 300 {
		t.Errorf("ranges that are not sure: %d; verdicts: %v", unsure, is)
	}
	if isShort < 300 || lengths[0] < 300 || lengths[1] < 300 || lengths[2] < 50 || lengths[3] < 5 {
		t.Errorf("no houses are enough: %d; lengths of the smallest sets: %v", isShort, lengths)
	}
}

func TestP8_6WhatIsInHand(t *testing.T) {
	for _, l := range ledgers(500) {
		list := hands(t, l)
		eachTruth(l.Register, func(houses [][]int) {
			hand := handIn(l, houses)
			if !slices.ContainsFunc(list, func(x []int) bool { return slices.Equal(x, hand) }) {
				t.Fatalf("Hands of %v: %v; %v is possible", l, list, hand)
			}
		})
		for house := range l.Register.Houses {
			in, e := sheet.InHand(l.Register, house, l.Day)
			low, high := api.MaxSheetSheets, 0
			for _, hand := range list {
				low, high = min(low, hand[house]), max(high, hand[house])
			}
			if e != api.OK || in.Lo != low || in.Hi != high {
				t.Fatalf("Hands of %v: %v; InHand of %d: %v, %v", l, list, house, in, e)
			}
		}
		for _, hand := range list {
			if total(hand) != len(l.Register.Start) || len(hand) != l.Register.Houses {
				t.Fatalf("Hands of %v: %v", l, list)
			}
		}
	}
}

func TestP8_7NoFewer(t *testing.T) {
	r := rand.New(rand.NewSource(7))
	made := 0
	for _, l := range ledgers(1000) {
		hand := someHand(r, l)
		deliveries, bought := best(t, l, hand)
		if !areMade(l, hand, deliveries) || boughtBy(l, deliveries) != bought {
			t.Fatalf("Best of %v with %v: %v, %d", l, hand, deliveries, bought)
		}
		for range 100 {
			some := make([]int, len(l.Dues))
			for i, d := range l.Dues {
				some[i] = between(r, 0, d.Number)
			}
			if !areMade(l, hand, some) {
				continue
			}
			made++
			if boughtBy(l, some) < bought {
				t.Fatalf("Best of %v with %v: %v, %d; by %v less must be bought in", l, hand, deliveries, bought, some)
			}
		}
	}
	if made < 20000 {
		t.Errorf("deliveries that can be made: %d", made)
	}
}

// isNoMore reports whether no end of the range is greater.
func isNoMore(after, before short.Range) bool {
	return after.Lo <= before.Lo && after.Hi <= before.Hi
}

func TestP8_8MoreInHand(t *testing.T) {
	r := rand.New(rand.NewSource(8))
	less := map[string]int{}
	for _, l := range ledgers(2000) {
		hand, house := someHand(r, l), r.Intn(l.Register.Houses)
		_, bought := best(t, l, hand)
		more := slices.Clone(hand)
		if more[house] < api.MaxSheetSheets {
			more[house]++
		}
		if _, n := best(t, l, more); n > bought {
			t.Fatalf("Best of %v with %v: %d; with %v: %d", l, hand, bought, more, n)
		} else if n < bought {
			less["hand"]++
		}
		with := lending(l, house)
		if _, n := best(t, with, hand); n > bought {
			t.Fatalf("Best of %v with %v: %d; if %d lends: %d", l, hand, bought, house, n)
		} else if n < bought {
			less["lends"]++
		}
		if after, before := buyIns(t, with), buyIns(t, l); !isNoMore(after, before) {
			t.Fatalf("BuyIns of %v: %v; if %d lends: %v", l, before, house, after)
		}
		richer := clone(l)
		if len(richer.Register.Start) < api.MaxSheetSheets {
			richer.Register.Start = append(richer.Register.Start, house)
		}
		if after, before := buyIns(t, richer), buyIns(t, l); !isNoMore(after, before) {
			t.Fatalf("BuyIns of %v: %v; with one more sheet in %d: %v", l, before, house, after)
		}
	}
	if less["hand"] < 200 || less["lends"] < 100 {
		t.Errorf("less is bought in: %v", less)
	}
}

func TestP8_9MoreDues(t *testing.T) {
	r := rand.New(rand.NewSource(9))
	same, more, fewer := 0, 0, 0
	for _, l := range ledgers(2000) {
		if len(l.Dues) == api.MaxShortDues || l.Register.Houses == 1 {
			continue
		}
		with, d, hand := clone(l), someDue(r, l, 4), someHand(r, l)
		with.Dues = slices.Insert(with.Dues, r.Intn(len(l.Dues)+1), d)
		_, before := best(t, l, hand)
		_, after := best(t, with, hand)
		if after > before+d.Number {
			t.Fatalf("Best of %v with %v: %d; of %v: %d", l, hand, before, with, after)
		}
		was, is := buyIns(t, l), buyIns(t, with)
		if is.Lo > was.Lo+d.Number || is.Hi > was.Hi+d.Number {
			t.Fatalf("BuyIns of %v: %v; of %v: %v", l, was, with, is)
		}
		switch {
		case after == before:
			same++
		case after > before:
			more++
		default:
			fewer++
		}
	}
	if same < 200 || more < 300 || fewer < 20 {
		t.Errorf("as much is bought in: %d; more: %d; less: %d", same, more, fewer)
	}
}

func TestP8_10Rings(t *testing.T) {
	r := rand.New(rand.NewSource(10))
	for _, l := range ledgers(1000) {
		if l.Register.Houses == 1 {
			continue
		}
		way, number := r.Perm(l.Register.Houses)[:between(r, 2, l.Register.Houses)], between(r, 1, api.MaxShortNumber)
		l.Dues = nil
		for k, house := range way {
			l.Dues = append(l.Dues, due(house, way[(k+1)%len(way)], number))
		}
		hand := someHand(r, l)
		if deliveries, bought := best(t, l, hand); bought != 0 || !slices.Equal(deliveries, numbers(l)) {
			t.Fatalf("Best of %v with %v: %v, %d", l, hand, deliveries, bought)
		}
		set, ok := enough(t, l)
		if buyIns(t, l) != to(0, 0) || slices.Max(verdicts(t, l)) != short.Always || !ok || len(set) > 0 {
			t.Fatalf("%v: %v, %v, %v", l, buyIns(t, l), verdicts(t, l), set)
		}
	}
}

// owes returns how many sheets each house owes in all.
func owes(l short.Ledger) []int {
	list := make([]int, l.Register.Houses)
	for _, d := range l.Dues {
		list[d.From] += d.Number
	}
	return list
}

func TestP8_11AllHaveEnough(t *testing.T) {
	r := rand.New(rand.NewSource(11))
	some := 0
	for _, l := range ledgers(2000) {
		l.Lends = lent(l.Register.Houses, r.Intn(l.Register.Houses))
		hand := owes(l)
		if slices.Max(hand) > api.MaxSheetSheets {
			continue
		}
		for house := range hand {
			hand[house] = between(r, hand[house], api.MaxSheetSheets)
		}
		if deliveries, bought := best(t, l, hand); bought != 0 || !slices.Equal(deliveries, numbers(l)) {
			t.Fatalf("Best of %v with %v: %v, %d", l, hand, deliveries, bought)
		}
		some += min(len(l.Dues), 1)
	}
	if some < 500 {
		t.Errorf("ledgers with dues: %d", some)
	}
}

func TestP8_12Verdicts(t *testing.T) {
	settled, never := 0, 0
	for _, l := range ledgers(3000) {
		list, bought := verdicts(t, l), buyIns(t, l)
		if len(list) != len(l.Dues) {
			t.Fatalf("Verdicts of %v: %v", l, list)
		}
		isAlways := !slices.ContainsFunc(list, func(n int) bool { return n != short.Always })
		if bought == to(0, 0) && !isAlways || slices.Contains(list, short.Never) && bought.Lo == 0 {
			t.Fatalf("%v: %v, and %v must be bought in", l, list, bought)
		}
		if len(list) > 0 && bought == to(0, 0) {
			settled++
		}
		if slices.Contains(list, short.Never) {
			never++
		}
	}
	if settled < 300 || never < 300 {
		t.Errorf("nothing must be bought in: %d; dues that never can be made: %d", settled, never)
	}
}

func TestP8_13Enough(t *testing.T) {
	some, none := 0, 0
	for _, l := range ledgers(2000) {
		set, ok := enough(t, l)
		all := allLists(l)
		at := slices.IndexFunc(all, func(x []int) bool { return slices.Equal(x, set) })
		if !ok {
			at = len(all)
			none++
		} else if at < 0 || buyIns(t, lending(l, set...)) != to(0, 0) {
			t.Fatalf("Enough of %v: %v", l, set)
		}
		for _, houses := range all[:at] {
			if buyIns(t, lending(l, houses...)).Hi == 0 {
				t.Fatalf("Enough of %v: %v, %v; %v would do", l, set, ok, houses)
			}
		}
		some += min(len(set), 1)
	}
	if some < 300 || none < 300 {
		t.Errorf("sets of houses: %d; none is enough: %d", some, none)
	}
}

func TestP8_14OneAfterTheOther(t *testing.T) {
	r := rand.New(rand.NewSource(14))
	some := 0
	for _, l := range ledgers(3000) {
		l := clone(l)
		i := slices.IndexFunc(l.Dues, func(d short.Due) bool { return d.Number > 1 })
		if i < 0 || len(l.Dues) == api.MaxShortDues {
			continue
		}
		two, part := clone(l), between(r, 1, l.Dues[i].Number-1)
		two.Dues[i].Number -= part
		at := r.Intn(len(l.Dues) + 1)
		two.Dues = slices.Insert(two.Dues, at, due(l.Dues[i].From, l.Dues[i].To, part))
		hand := someHand(r, l)
		_, n := best(t, l, hand)
		_, again := best(t, two, hand)
		if n != again || buyIns(t, l) != buyIns(t, two) {
			t.Fatalf("%v with %v: %d, %v; %v: %d, %v", l, hand, n, buyIns(t, l), two, again, buyIns(t, two))
		}
		set, ok := enough(t, l)
		if other, isOther := enough(t, two); !slices.Equal(set, other) || ok != isOther {
			t.Fatalf("Enough of %v: %v, %v; of %v: %v, %v", l, set, ok, two, other, isOther)
		}
		if n > 0 {
			some++
		}
	}
	if some < 300 {
		t.Errorf("only %d dues were cut in two where something is bought in", some)
	}
}

// TestP7AnyOrder: dues lead to the same in whatever order they are listed.
func TestP7AnyOrder(t *testing.T) {
	r := rand.New(rand.NewSource(77))
	for _, l := range ledgers(1000) {
		other, order := clone(l), r.Perm(len(l.Dues))
		var want []int
		for i, from := range order {
			other.Dues[i] = l.Dues[from]
			want = append(want, verdicts(t, l)[from])
		}
		hand := someHand(r, l)
		_, n := best(t, l, hand)
		_, again := best(t, other, hand)
		if n != again || buyIns(t, l) != buyIns(t, other) || !slices.Equal(verdicts(t, other), want) {
			t.Fatalf("%v with %v: %d, %v, %v; %v: %d, %v, %v", l, hand, n, buyIns(t, l), verdicts(t, l), other, again, buyIns(t, other), verdicts(t, other))
		}
		set, ok := enough(t, l)
		if otherSet, isOther := enough(t, other); !slices.Equal(set, otherSet) || ok != isOther {
			t.Fatalf("Enough of %v: %v, %v; of %v: %v, %v", l, set, ok, other, otherSet, isOther)
		}
	}
}
