package ring_test

import (
	"math/rand"
	"reflect"
	"slices"
	"testing"

	"contango/api"
	"contango/ring"
)

// change is one of the book of the example, after which it has the error e.
type change struct {
	name   string
	change func(b *ring.Book)
	e      api.Errno
}

// validChanges are those after which the book is still valid.
func validChanges() []change {
	return []change{
		{"most houses", func(b *ring.Book) { b.Houses = api.MaxRingHouses }, api.OK},
		{"one house", func(b *ring.Book) { *b = book(1) }, api.OK},
		{"no contracts", func(b *ring.Book) { b.Contracts = nil }, api.OK},
		{"most contracts", func(b *ring.Book) { b.Contracts = append(b.Contracts, b.Contracts[:3]...) }, api.OK},
		{"the last house sells", func(b *ring.Book) { b.Contracts[0].From = 3 }, api.OK},
		{"the last house buys", func(b *ring.Book) { b.Contracts[0].To = 3 }, api.OK},
		{"the least number", func(b *ring.Book) { b.Contracts[4].Number = 1 }, api.OK},
		{"the greatest number", func(b *ring.Book) { b.Contracts[4].Number = api.MaxRingNumber }, api.OK},
		{"the least price", func(b *ring.Book) { b.Contracts[4].Price = 1 }, api.OK},
		{"the greatest price", func(b *ring.Book) { b.Contracts[4].Price = api.MaxRingPrice }, api.OK},
		{"one contract twice", func(b *ring.Book) { b.Contracts[1] = b.Contracts[0] }, api.OK},
	}
}

// tooMany are those after which it has more of something than there may be.
func tooMany() []change {
	return []change{
		{"too many houses", func(b *ring.Book) { b.Houses = 7 }, api.ErrLimit},
		{"far too many houses", func(b *ring.Book) { b.Houses = farthest }, api.ErrLimit},
		{"too many contracts", func(b *ring.Book) { b.Contracts = slices.Repeat([]ring.Contract{part(0, 1, 1)}, 9) }, api.ErrLimit},
		{"too many contracts, not valid", func(b *ring.Book) { b.Contracts = make([]ring.Contract, 9) }, api.ErrLimit},
	}
}

// wrongChanges are those after which it is not valid.
func wrongChanges() []change {
	return append(tooMany(), []change{
		{"no houses", func(b *ring.Book) { b.Houses = 0 }, api.ErrArg},
		{"no houses and no contracts", func(b *ring.Book) { b.Houses, b.Contracts = 0, nil }, api.ErrArg},
		{"houses below 0", func(b *ring.Book) { b.Houses, b.Contracts = lowest, nil }, api.ErrArg},
		{"too few houses", func(b *ring.Book) { b.Houses = 3 }, api.ErrArg},
		{"no such seller", func(b *ring.Book) { b.Contracts[0].From = 4 }, api.ErrArg},
		{"a seller below 0", func(b *ring.Book) { b.Contracts[0].From = -1 }, api.ErrArg},
		{"a seller far away", func(b *ring.Book) { b.Contracts[4].From = farthest }, api.ErrArg},
		{"no such buyer", func(b *ring.Book) { b.Contracts[4].To = 4 }, api.ErrArg},
		{"a buyer below 0", func(b *ring.Book) { b.Contracts[4].To = -1 }, api.ErrArg},
		{"a buyer far away", func(b *ring.Book) { b.Contracts[0].To = lowest }, api.ErrArg},
		{"one house sells and buys", func(b *ring.Book) { b.Contracts[2].To = 2 }, api.ErrArg},
		{"no shares", func(b *ring.Book) { b.Contracts[2].Number = 0 }, api.ErrArg},
		{"shares below 0", func(b *ring.Book) { b.Contracts[2].Number = -1 }, api.ErrArg},
		{"too many shares", func(b *ring.Book) { b.Contracts[4].Number = 101 }, api.ErrArg},
		{"far too many shares", func(b *ring.Book) { b.Contracts[0].Number = farthest }, api.ErrArg},
		{"no price", func(b *ring.Book) { b.Contracts[0].Price = 0 }, api.ErrArg},
		{"a price below 0", func(b *ring.Book) { b.Contracts[0].Price = lowest }, api.ErrArg},
		{"too great a price", func(b *ring.Book) { b.Contracts[4].Price = 1001 }, api.ErrArg},
	}...)
}

// args are all that a call can have beside the book.
type args struct{ house, price int }

// result is what a call returned, and its error.
type result struct {
	call  string
	value any
	e     api.Errno
}

// callAll calls every function that has an error.
func callAll(b ring.Book, a args) []result {
	differences, e1 := ring.Differences(b)
	money, e2 := ring.Money(b, a.price)
	losses, e3 := ring.Fails(b, a.house, a.price)
	off, heights, e4 := ring.Greatest(b)
	rings, e5 := ring.Rings(b)
	set, deliveries, e6 := ring.Fewest(b)
	return []result{
		{"CheckBook", nil, ring.CheckBook(b)},
		{"Differences", differences, e1}, {"Money", money, e2}, {"Fails", losses, e3},
		{"Greatest", off, e4}, {"Greatest", heights, e4}, {"Rings", rings, e5},
		{"Fewest", set, e6}, {"Fewest", deliveries, e6},
	}
}

// isEmpty reports whether a result is none, or an empty list.
func isEmpty(x any) bool {
	v := reflect.ValueOf(x)
	return !v.IsValid() || v.Len() == 0
}

// TestR1Book: a book that is not valid has its error in each call, before those
// of all else; no other result; and no proof.
func TestR1Book(t *testing.T) {
	for _, x := range wrongChanges() {
		b := theExample()
		x.change(&b)
		for _, a := range []args{{0, 52}, {9, 0}, {-1, 1001}} {
			for _, got := range callAll(b, a) {
				if got.e != x.e || !isEmpty(got.value) {
					t.Errorf("%s, %s: %v, %v; want %v", got.call, x.name, got.value, got.e, x.e)
				}
			}
		}
		nothing := make([]int, len(b.Contracts))
		isProved := ring.ProveGreatest(b, row(20, 20, 20, 0, 0), row(1, 2, 0, 1)) || ring.ProveGreatest(b, nothing, make([]int, 7))
		isProved = isProved || ring.ProveRings(b, []ring.Ring{ringOf(20, 0, 1, 2)}, 60) || ring.ProveRings(b, nil, 0)
		if isProved || ring.ProveDeliveries(b, row(15, 0, 10, 5, 0), 3) || ring.ProveDeliveries(b, nothing, 9) || ring.ProveDeliveries(b, nil, 9) {
			t.Errorf("a proof, %s", x.name)
		}
	}
}

// TestR1LimitFirst: too many of anything counts before all else that is wrong.
func TestR1LimitFirst(t *testing.T) {
	for _, x := range tooMany() {
		for _, y := range wrongChanges() {
			b := theExample()
			y.change(&b)
			x.change(&b)
			if e := ring.CheckBook(b); e != api.ErrLimit {
				t.Errorf("CheckBook, %s and %s: %v", y.name, x.name, e)
			}
		}
	}
}

// TestR1Range: what Money and Fails are asked about.
func TestR1Range(t *testing.T) {
	for _, x := range []struct {
		name         string
		a            args
		money, fails api.Errno
	}{
		{"all right", args{0, 52}, api.OK, api.OK},
		{"the last house, the first price", args{3, 1}, api.OK, api.OK},
		{"the last price", args{0, 1000}, api.OK, api.OK},
		{"no price", args{0, 0}, api.ErrRange, api.ErrRange},
		{"a price below 0", args{0, lowest}, api.ErrRange, api.ErrRange},
		{"too great a price", args{0, 1001}, api.ErrRange, api.ErrRange},
		{"a price far away", args{0, farthest}, api.ErrRange, api.ErrRange},
		{"no such house", args{4, 52}, api.OK, api.ErrRange},
		{"a house below 0", args{-1, 52}, api.OK, api.ErrRange},
		{"a house far away", args{lowest, 52}, api.OK, api.ErrRange},
		{"no such house, no such price", args{farthest, 0}, api.ErrRange, api.ErrRange},
	} {
		want := map[string]api.Errno{"Money": x.money, "Fails": x.fails}
		for _, got := range callAll(theExample(), x.a) {
			if got.e != want[got.call] || got.e != api.OK && !isEmpty(got.value) {
				t.Errorf("%s, %s: %v, %v; want %v", got.call, x.name, got.value, got.e, want[got.call])
			}
		}
	}
}

// TestR3Empty: nil and a list without elements are the same.
func TestR3Empty(t *testing.T) {
	lists, none := [][]int{nil, {}}, [][]ring.Contract{nil, {}}
	for _, contracts := range none {
		b := ring.Book{Houses: 2, Contracts: contracts}
		for _, got := range callAll(b, args{1, 52}) {
			isOfHouses := got.call == "Differences" || got.call == "Money" || got.call == "Fails"
			l, ok := got.value.([]int)
			if got.e != api.OK || isOfHouses && !slices.Equal(l, row(0, 0)) || got.call == "Fewest" && (!ok || len(l) > 0) {
				t.Errorf("%s of no contracts: %v, %v", got.call, got.value, got.e)
			}
		}
		for _, l := range lists {
			if !ring.ProveGreatest(b, l, row(0, 0)) || !ring.ProveDeliveries(b, l, 0) {
				t.Errorf("no proof of no contracts: %v", l)
			}
		}
		for _, l := range [][]ring.Ring{nil, {}} {
			if !ring.ProveRings(b, l, 0) {
				t.Errorf("no proof of no contracts: %v", l)
			}
		}
	}
	for _, contracts := range lists {
		if ring.ProveRings(theExample(), []ring.Ring{{Contracts: contracts, Amount: 1}}, 0) {
			t.Errorf("a proof of a ring of %v", contracts)
		}
	}
}

// fill writes to all memory of a list, and beyond its end.
func fill(list []int) {
	list = list[:cap(list)]
	for i := range list {
		list[i] = -7
	}
}

// TestR4Memory: arguments are not written to, results share no memory.
func TestR4Memory(t *testing.T) {
	for _, b := range books(300) {
		mine, a := clone(b), args{0, 50}
		kept, again := callAll(mine, a), callAll(mine, a)
		check := func(call string, from int) {
			for k := from; k < len(kept); k++ {
				if !reflect.DeepEqual(kept[k], again[k]) {
					t.Fatalf("%s of %v has become %v with %s; want %v", again[k].call, b, again[k].value, call, kept[k].value)
				}
			}
			if !reflect.DeepEqual(kept, callAll(mine, a)) || !reflect.DeepEqual(mine, b) {
				t.Fatalf("%s: %v has become %v", call, b, mine)
			}
		}
		for i, got := range again {
			if l, ok := got.value.([]int); ok {
				fill(l)
			}
			l, _ := got.value.([]ring.Ring)
			for n := range l {
				fill(l[n].Contracts)
				if !reflect.DeepEqual(l[n+1:], kept[i].value.([]ring.Ring)[n+1:]) {
					t.Fatalf("Rings of %v has become %v with the ring %d", b, l, n)
				}
			}
			check(got.call, i+1)
		}
	}
}

// TestR4Proofs: the proofs do not write to what they are given.
func TestR4Proofs(t *testing.T) {
	for _, b := range books(300) {
		mine := clone(b)
		off, heights := greatest(t, mine)
		l := rings(t, mine)
		_, deliveries := least(t, mine)
		given := []any{slices.Clone(off), slices.Clone(heights), rings(t, mine), slices.Clone(deliveries), b}
		ok := ring.ProveGreatest(mine, off, heights) && ring.ProveRings(mine, l, 0) && ring.ProveDeliveries(mine, deliveries, 8)
		if !ok || !reflect.DeepEqual(given, []any{off, heights, l, deliveries, mine}) {
			t.Fatalf("%v, %v has become %v, %v, %v, %v, %v", ok, given, off, heights, l, deliveries, mine)
		}
	}
}

// anyNumber returns numbers within limits, near them, and far away.
func anyNumber(r *rand.Rand) int {
	return pick(r, 0, 0, 0, 1, 1, 1, 2, 2, 3, 4, 5, 6, 7, 10, 11, 50, 100, 101, 1000, 1001, -1, -10, -11, farthest, lowest, r.Int(), -r.Int())
}

// anyList returns a list of any numbers.
func anyList(r *rand.Rand) []int {
	var list []int
	for range pick(r, 0, 1, 2, 3, 5, 6, 8, 9) {
		list = append(list, anyNumber(r))
	}
	return list
}

// anyBook returns a book that is often not valid.
func anyBook(r *rand.Rand) ring.Book {
	b := clone(pick(r, someBook(r, 8, 100), theExample(), ring.Book{}, ring.Book{Houses: anyNumber(r)}))
	b.Houses = pick(r, b.Houses, b.Houses, b.Houses, anyNumber(r))
	for range pick(r, 0, 0, 0, 1, 2, 8) {
		b.Contracts = append(b.Contracts, sale(anyNumber(r), anyNumber(r), anyNumber(r), anyNumber(r)))
	}
	return b
}

// anyRings returns any rings.
func anyRings(r *rand.Rand) []ring.Ring {
	var l []ring.Ring
	for range pick(r, 0, 1, 2, 9) {
		l = append(l, ring.Ring{Contracts: anyList(r), Amount: anyNumber(r)})
	}
	return l
}

// TestP1Returns: no call panics, and each has no result with its error, whatever
// its arguments are.
func TestP1Returns(t *testing.T) {
	r := rand.New(rand.NewSource(1))
	is := map[api.Errno]int{}
	for range 20000 {
		b, a := anyBook(r), args{anyNumber(r), anyNumber(r)}
		e := ring.CheckBook(b)
		is[e]++
		for _, x := range callAll(b, a) {
			if x.e != api.OK && !isEmpty(x.value) || e != api.OK && x.e != e {
				t.Fatalf("%s of %v, %v: %v, %v", x.call, b, a, x.value, x.e)
			}
		}
		isGreatest := ring.ProveGreatest(b, anyList(r), anyList(r))
		isMadeUp := ring.ProveRings(b, anyRings(r), anyNumber(r))
		isDelivered := ring.ProveDeliveries(b, anyList(r), anyNumber(r))
		if e != api.OK && (isGreatest || isMadeUp || isDelivered) {
			t.Fatalf("proofs of %v: %v, %v, %v", b, isGreatest, isMadeUp, isDelivered)
		}
	}
	if is[api.OK] < 2000 || is[api.ErrArg] < 2000 || is[api.ErrLimit] < 2000 {
		t.Errorf("errors: %v", is)
	}
}

// TestP1Widest: as much as there may be of everything.
func TestP1Widest(t *testing.T) {
	b := circle(100)
	b.Contracts = append(b.Contracts, part(0, 3, 100), part(3, 0, 100))
	off, heights := greatest(t, b)
	if total(off) != 800 || !ring.ProveGreatest(b, off, heights) {
		t.Errorf("Greatest: %v, %v", off, heights)
	}
	if l := rings(t, b); !ring.ProveRings(b, l, 800) || len(l) > 8 {
		t.Errorf("Rings: %v", l)
	}
	if set, deliveries := least(t, b); len(set) > 0 || !slices.Equal(deliveries, make([]int, 8)) {
		t.Errorf("Fewest: %v, %v", set, deliveries)
	}
	long := make([]int, 1<<20)
	if ring.ProveGreatest(b, long, long) || ring.ProveDeliveries(b, long, farthest) || ring.ProveRings(b, []ring.Ring{{Contracts: long, Amount: 1}}, 0) {
		t.Error("proofs with long lists")
	}
	many := slices.Repeat([]ring.Ring{ringOf(1, 6, 7)}, 1<<20)
	if ring.ProveRings(b, many, 0) || !ring.ProveRings(b, many[:100], 200) || ring.ProveRings(b, many[:101], 200) {
		t.Error("ProveRings of many rings")
	}
}
