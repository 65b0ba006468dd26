package ring_test

import (
	"math/rand"
	"slices"
	"testing"

	"contango/api"
	"contango/ring"
)

// greatest returns what Greatest does, which must have no error.
func greatest(t *testing.T, b ring.Book) (off, heights []int) {
	t.Helper()
	off, heights, e := ring.Greatest(b)
	if e != api.OK {
		t.Fatalf("Greatest of %v: %v", b, e)
	}
	return off, heights
}

// rings returns what Rings does, which must have no error.
func rings(t *testing.T, b ring.Book) []ring.Ring {
	t.Helper()
	l, e := ring.Rings(b)
	if e != api.OK {
		t.Fatalf("Rings of %v: %v", b, e)
	}
	return l
}

// least returns what Fewest does, which must have no error.
func least(t *testing.T, b ring.Book) (set, deliveries []int) {
	t.Helper()
	set, deliveries, e := ring.Fewest(b)
	if e != api.OK {
		t.Fatalf("Fewest of %v: %v", b, e)
	}
	return set, deliveries
}

// differences returns what Differences does, which must have no error.
func differences(t *testing.T, b ring.Book) []int {
	t.Helper()
	l, e := ring.Differences(b)
	if e != api.OK {
		t.Fatalf("Differences of %v: %v", b, e)
	}
	return l
}

// money returns what Money does, which must have no error.
func money(t *testing.T, b ring.Book, price int) []int {
	t.Helper()
	l, e := ring.Money(b, price)
	if e != api.OK {
		t.Fatalf("Money of %v at %d: %v", b, price, e)
	}
	return l
}

// clone returns the book in memory of its own.
func clone(b ring.Book) ring.Book {
	b.Contracts = slices.Clone(b.Contracts)
	return b
}

// remaining returns the book of which so much is set off.
func remaining(b ring.Book, off []int) ring.Book {
	left := ring.Book{Houses: b.Houses}
	for i, c := range b.Contracts {
		if c.Number -= off[i]; c.Number > 0 {
			left.Contracts = append(left.Contracts, c)
		}
	}
	return left
}

func TestP6_1Oracle(t *testing.T) {
	for _, b := range books(2000) {
		if got := differences(t, b); !slices.Equal(got, differencesOf(b)) {
			t.Fatalf("Differences of %v: %v; want %v", b, got, differencesOf(b))
		}
	}
}

// gets returns what the house gets from the other one less what it pays to it.
func gets(b ring.Book, house, other, price int) int {
	got, paid := 0, 0
	for _, c := range b.Contracts {
		if c.From == house && c.To == other {
			got += c.Number * (c.Price - price)
		}
		if c.To == house && c.From == other {
			paid += c.Number * (c.Price - price)
		}
	}
	return got - paid
}

func TestP6_2Oracle(t *testing.T) {
	r := rand.New(rand.NewSource(2))
	losses, netted := 0, 0
	for _, b := range books(2000) {
		price, house := pick(r, 49, 50, 51, between(r, 1, 1000)), r.Intn(b.Houses)
		var due, lost []int
		for one := range b.Houses {
			sum := 0
			for other := range b.Houses {
				sum += gets(b, one, other, price)
			}
			due, lost = append(due, sum), append(lost, max(0, gets(b, one, house, price)))
		}
		if got := money(t, b, price); !slices.Equal(got, due) {
			t.Fatalf("Money of %v at %d: %v; want %v", b, price, got, due)
		}
		got, e := ring.Fails(b, house, price)
		if !slices.Equal(got, lost) || e != api.OK {
			t.Fatalf("Fails of %v, house %d at %d: %v, %v; want %v", b, house, price, got, e, lost)
		}
		losses += len(above(lost))
		if due[house] < 0 && total(lost) > -due[house] {
			netted++
		}
	}
	if losses < 500 || netted < 50 {
		t.Errorf("%d lose, in %d books more than what is owed after all", losses, netted)
	}
}

// TestP6_3Oracle compares Greatest with all settings off.
func TestP6_3Oracle(t *testing.T) {
	ringless := map[bool]int{}
	for _, b := range smallBooks(1000) {
		off, heights := greatest(t, b)
		want := greatestTotal(b)
		if !isSettingOff(b, off) || total(off) != want {
			t.Fatalf("Greatest of %v: %v; want %d", b, off, want)
		}
		if sum, ok := proved(b, heights); !ok || sum != want {
			t.Fatalf("Greatest of %v: the heights %v prove %d, %v; want %d", b, heights, sum, ok, want)
		}
		ringless[want == 0]++
	}
	if ringless[true] < 100 || ringless[false] < 500 {
		t.Errorf("books without a setting off: %v", ringless)
	}
}

// TestP6_3GreatNumbers: heights that prove the total are proof enough.
func TestP6_3GreatNumbers(t *testing.T) {
	for _, b := range books(5000) {
		off, heights := greatest(t, b)
		if sum, ok := proved(b, heights); !isSettingOff(b, off) || !ok || sum != total(off) || !ring.ProveGreatest(b, off, heights) {
			t.Fatalf("Greatest of %v: %v, %v", b, off, heights)
		}
	}
}

// TestP6_3Changed compares ProveGreatest with the definitions, of what Greatest
// returns with changes.
func TestP6_3Changed(t *testing.T) {
	r := rand.New(rand.NewSource(33))
	is := map[bool]int{}
	for _, b := range books(5000) {
		off, heights := greatest(t, b)
		shift := between(r, -11, 10)
		for house := range heights {
			heights[house] += shift
		}
		if r.Intn(2) == 0 {
			l := pick(r, off, heights)
			if len(l) > 0 {
				l[r.Intn(len(l))] += pick(r, -1, 1, between(r, -20, 20))
			}
		}
		if l := rings(t, b); len(l) > 0 && r.Intn(4) == 0 {
			for _, i := range pick(r, l...).Contracts {
				off[i] += pick(r, -1, -1, 1)
			}
		}
		sum, ok := proved(b, heights)
		want := ok && isSettingOff(b, off) && total(off) == sum
		if got := ring.ProveGreatest(b, off, heights); got != want {
			t.Fatalf("ProveGreatest of %v, %v, %v: %v", b, off, heights, got)
		}
		is[want]++
	}
	if is[true] < 1000 || is[false] < 1000 {
		t.Errorf("proofs: %v", is)
	}
}

// TestP6_4Oracle: rings make up the greatest total, and are no more than the contracts.
func TestP6_4Oracle(t *testing.T) {
	lengths := map[int]int{}
	for _, b := range slices.Concat(smallBooks(1000), books(5000)) {
		off, _ := greatest(t, b)
		l := rings(t, b)
		got, ok := made(b, l)
		if !ok || total(got) != total(off) || len(l) > len(b.Contracts) {
			t.Fatalf("Rings of %v: %v; want %d", b, l, total(off))
		}
		if !ring.ProveRings(b, l, total(off)) || ring.ProveRings(b, l, total(off)+1) {
			t.Fatalf("ProveRings of %v, %v, %d", b, l, total(off))
		}
		lengths[len(l)]++
	}
	if lengths[0] < 500 || lengths[1] < 500 || lengths[2] < 500 || lengths[3] < 100 {
		t.Errorf("numbers of rings: %v", lengths)
	}
}

// someRings returns rings of the book, some of which are changed.
func someRings(r *rand.Rand, b ring.Book) []ring.Ring {
	var l []ring.Ring
	all := allRings(b)
	for range between(r, 0, 3) {
		if len(all) == 0 {
			break
		}
		x := ringOf(between(r, 1, pick(r, 2, 5, 40)), slices.Clone(pick(r, all...))...)
		last := len(x.Contracts) - 1
		switch r.Intn(12) {
		case 0:
			x.Contracts[r.Intn(last+1)] = between(r, -1, len(b.Contracts))
		case 1:
			x.Contracts = x.Contracts[:last]
		case 2:
			x.Contracts = slices.Concat(x.Contracts, pick(r, all...))
		case 3:
			x.Contracts[0], x.Contracts[last] = x.Contracts[last], x.Contracts[0]
		case 4:
			x.Amount = between(r, -1, 1)
		}
		l = append(l, x)
	}
	return l
}

// TestP6_4Changed compares ProveRings with the definitions.
func TestP6_4Changed(t *testing.T) {
	r := rand.New(rand.NewSource(44))
	is := map[bool]int{}
	for _, b := range books(5000) {
		l := someRings(r, b)
		off, ok := made(b, l)
		wanted := total(off) + pick(r, -1, 0, 0, 1)
		want := ok && total(off) >= wanted
		if got := ring.ProveRings(b, l, wanted); got != want {
			t.Fatalf("ProveRings of %v, %v, %d: %v", b, l, wanted, got)
		}
		if len(l) > 0 {
			is[want]++
		}
	}
	if is[true] < 500 || is[false] < 500 {
		t.Errorf("proofs: %v", is)
	}
}

// TestP6_5Oracle compares Fewest with all deliveries.
func TestP6_5Oracle(t *testing.T) {
	lengths := map[int]int{}
	for _, b := range smallBooks(1000) {
		set, deliveries := least(t, b)
		wantSet, want := fewest(b)
		if !slices.Equal(set, wantSet) || !slices.Equal(deliveries, want) {
			t.Fatalf("Fewest of %v: %v, %v; want %v, %v", b, set, deliveries, wantSet, want)
		}
		lengths[len(set)]++
	}
	for many := range 6 {
		if lengths[many] < 30 {
			t.Errorf("lengths of the smallest sets: %v", lengths)
		}
	}
}

// TestP6_5GreatNumbers compares Fewest with what sets of houses are owed.
func TestP6_5GreatNumbers(t *testing.T) {
	several := 0
	for _, b := range books(1000) {
		set, deliveries := least(t, b)
		if want := smallestSet(b); !slices.Equal(set, want) {
			t.Fatalf("Fewest of %v: %v; want %v", b, set, want)
		}
		if !areDeliveries(b, deliveries) || !slices.Equal(above(deliveries), set) || !isFirst(b, set, deliveries) {
			t.Fatalf("Fewest of %v: %v, %v", b, set, deliveries)
		}
		if isOther(b, set, deliveries) {
			several++
		}
	}
	if several < 30 {
		t.Errorf("sets with several deliveries: %d", several)
	}
}

// isOther reports whether there are other deliveries by the set: one of a
// contract that is greater by 1.
func isOther(b ring.Book, set, deliveries []int) bool {
	for _, i := range set {
		rest, limits := differencesOf(b), limitsOf(b, set)
		n := deliveries[i] + 1
		if limits[i] -= n; limits[i] < 0 {
			continue
		}
		rest[b.Contracts[i].To] -= n
		rest[b.Contracts[i].From] += n
		if canDeliver(b, rest, limits) {
			return true
		}
	}
	return false
}

// TestP6_5Changed compares ProveDeliveries with the definitions, of deliveries
// with changes.
func TestP6_5Changed(t *testing.T) {
	r := rand.New(rand.NewSource(55))
	is := map[bool]int{}
	for _, b := range books(3000) {
		_, deliveries := least(t, b)
		for _, x := range rings(t, b) {
			if r.Intn(2) == 0 {
				for _, i := range x.Contracts {
					deliveries[i] += pick(r, 1, x.Amount)
				}
			}
		}
		if len(deliveries) > 0 && r.Intn(3) == 0 {
			deliveries[r.Intn(len(deliveries))] += pick(r, -1, 1)
		}
		many := len(above(deliveries)) + pick(r, -1, 0, 0, 1)
		want := areDeliveries(b, deliveries) && len(above(deliveries)) <= many
		if got := ring.ProveDeliveries(b, deliveries, many); got != want {
			t.Fatalf("ProveDeliveries of %v, %v, %d: %v", b, deliveries, many, got)
		}
		is[want]++
	}
	if is[true] < 500 || is[false] < 500 {
		t.Errorf("proofs: %v", is)
	}
}

func TestP6_6NobodyLoses(t *testing.T) {
	before := map[bool]int{}
	for _, b := range books(2000) {
		off, _ := greatest(t, b)
		left := remaining(b, off)
		if !slices.Equal(differences(t, left), differences(t, b)) {
			t.Fatalf("Differences of %v: %v; of what is left, %v: %v", b, differences(t, b), left, differences(t, left))
		}
		if l := allRings(left); len(l) > 0 || len(rings(t, left)) > 0 {
			t.Fatalf("what is left of %v, %v, has the rings %v", b, left, l)
		}
		before[len(allRings(b)) > 0]++
	}
	if before[true] < 500 || before[false] < 100 {
		t.Errorf("books with rings: %v", before)
	}
}

func TestP6_7NoGreaterOne(t *testing.T) {
	r := rand.New(rand.NewSource(7))
	smaller, same := 0, 0
	for _, b := range books(1000) {
		off, _ := greatest(t, b)
		if len(off) == 0 {
			continue
		}
		var l []ring.Ring
		for _, list := range allRings(b) {
			l = append(l, ringOf(between(r, 1, 50), list...))
		}
		r.Shuffle(len(l), func(i, k int) { l[i], l[k] = l[k], l[i] })
		for len(l) > 0 {
			if some, ok := made(b, l); ok && total(some) > total(off) {
				t.Fatalf("Greatest of %v: %v; %v is greater", b, off, some)
			} else if ok {
				smaller++
			}
			l = l[1:]
		}
		for range 20 {
			heights := make([]int, b.Houses)
			low := between(r, -10, 10)
			for house := range heights {
				heights[house] = between(r, low, min(10, low+3))
			}
			sum, _ := proved(b, heights)
			if sum < total(off) || sum == total(off) != ring.ProveGreatest(b, off, heights) {
				t.Fatalf("Greatest of %v: %v; %v prove %d", b, off, heights, sum)
			}
			if sum == total(off) {
				same++
			}
		}
	}
	if smaller < 200 || same < 200 {
		t.Errorf("other settings off: %d; heights that prove the total: %d", smaller, same)
	}
}

// TestP6_7AllHeights: none from 0 to 5 prove a smaller total.
func TestP6_7AllHeights(t *testing.T) {
	for _, b := range books(30) {
		if off, _ := greatest(t, b); total(off) != leastProved(b) {
			t.Fatalf("Greatest of %v: %v; heights prove %d", b, off, leastProved(b))
		}
	}
}

func TestP6_8MoreContracts(t *testing.T) {
	r := rand.New(rand.NewSource(8))
	greater := map[bool]int{}
	for _, b := range books(2000) {
		more := clone(b)
		isNew := b.Houses > 1 && len(b.Contracts) < api.MaxRingContracts && r.Intn(2) == 0
		if isNew {
			more.Contracts = slices.Insert(more.Contracts, r.Intn(len(b.Contracts)+1), someContract(r, b, 100))
		} else if len(b.Contracts) > 0 {
			c := &more.Contracts[r.Intn(len(b.Contracts))]
			c.Number = between(r, c.Number, api.MaxRingNumber)
		}
		was, _ := greatest(t, b)
		is, _ := greatest(t, more)
		if total(is) < total(was) {
			t.Fatalf("Greatest of %v: %v; of %v: %v", b, was, more, is)
		}
		if total(is) > total(was) {
			greater[isNew]++
		}
	}
	if greater[true] < 100 || greater[false] < 100 {
		t.Errorf("greater totals of more contracts, and of greater numbers: %v", greater)
	}
}

// negated returns the numbers with the other sign.
func negated(list []int) []int {
	list = slices.Clone(list)
	for i := range list {
		list[i] = -list[i]
	}
	return list
}

func TestP6_9Turned(t *testing.T) {
	for _, b := range books(1000) {
		turned := clone(b)
		for i, c := range b.Contracts {
			turned.Contracts[i].From, turned.Contracts[i].To = c.To, c.From
		}
		off, _ := greatest(t, b)
		turnedOff, _ := greatest(t, turned)
		set, _ := least(t, b)
		turnedSet, _ := least(t, turned)
		if total(off) != total(turnedOff) || !slices.Equal(set, turnedSet) {
			t.Fatalf("%v: %v, %v; turned: %v, %v", b, off, set, turnedOff, turnedSet)
		}
		if !slices.Equal(negated(differences(t, b)), differences(t, turned)) {
			t.Fatalf("Differences of %v: %v; turned: %v", b, differences(t, b), differences(t, turned))
		}
		if !slices.Equal(negated(money(t, b, 50)), money(t, turned, 50)) {
			t.Fatalf("Money of %v at 50: %v; turned: %v", b, money(t, b, 50), money(t, turned, 50))
		}
	}
}

func TestP6_10ToThePenny(t *testing.T) {
	r := rand.New(rand.NewSource(10))
	for _, b := range books(2000) {
		price := between(r, 1, 1000)
		low, high := price, price
		for _, c := range b.Contracts {
			low, high = min(low, c.Price), max(high, c.Price)
		}
		got := money(t, b, price)
		if total(got) != 0 || total(differences(t, b)) != 0 {
			t.Fatalf("%v at %d: %v, %v", b, price, got, differences(t, b))
		}
		more := between(r, 1-low, 1000-high)
		dearer := clone(b)
		for i := range dearer.Contracts {
			dearer.Contracts[i].Price += more
		}
		if again := money(t, dearer, price+more); !slices.Equal(again, got) {
			t.Fatalf("Money of %v at %d: %v; at prices greater by %d: %v", b, price, got, more, again)
		}
	}
}

func TestP6_11CostsNothing(t *testing.T) {
	r := rand.New(rand.NewSource(11))
	same := 0
	for _, b := range books(2000) {
		b, price, at := clone(b), between(r, 1, 1000), between(r, 1, 1000)
		for _, x := range rings(t, b) {
			off := make([]int, len(b.Contracts))
			for _, i := range x.Contracts {
				b.Contracts[i].Price = price
				off[i] = x.Amount
			}
			left := remaining(b, off)
			if before, after := money(t, b, at), money(t, left, at); !slices.Equal(before, after) {
				t.Fatalf("Money of %v at %d: %v; without the ring %v: %v", b, at, before, x, after)
			}
			same++
		}
	}
	if same < 1000 {
		t.Errorf("rings: %d", same)
	}
}

// only returns the book of the contracts of the set alone.
func only(b ring.Book, set []int) ring.Book {
	off := numbers(b)
	for _, i := range set {
		off[i] = 0
	}
	return remaining(b, off)
}

func TestP6_12Fewest(t *testing.T) {
	tried := 0
	for _, b := range books(500) {
		set, deliveries := least(t, b)
		if !canDeliver(b, differencesOf(b), limitsOf(b, set)) || !ring.ProveDeliveries(b, deliveries, len(set)) {
			t.Fatalf("Fewest of %v: %v, %v", b, set, deliveries)
		}
		eachSet(b, func(other []int) bool {
			if len(other) < len(set) && canDeliver(b, differencesOf(b), limitsOf(b, other)) {
				t.Fatalf("Fewest of %v: %v, and %v is shorter", b, set, other)
			}
			tried++
			return true
		})
		if l := allRings(only(b, set)); len(l) > 0 || len(rings(t, only(b, set))) > 0 {
			t.Fatalf("Fewest of %v: %v, with the rings %v", b, set, l)
		}
	}
	if tried < 10000 {
		t.Errorf("shorter lists: %d", tried)
	}
}

func TestP6_13OtherNames(t *testing.T) {
	r := rand.New(rand.NewSource(13))
	for _, b := range books(1000) {
		names, named := r.Perm(b.Houses), clone(b)
		for i, c := range b.Contracts {
			named.Contracts[i].From, named.Contracts[i].To = names[c.From], names[c.To]
		}
		off, _ := greatest(t, b)
		namedOff, _ := greatest(t, named)
		set, deliveries := least(t, b)
		namedSet, namedDeliveries := least(t, named)
		if total(off) != total(namedOff) || !slices.Equal(set, namedSet) || !slices.Equal(deliveries, namedDeliveries) {
			t.Fatalf("%v: %v, %v, %v; with other names: %v, %v, %v", b, off, set, deliveries, namedOff, namedSet, namedDeliveries)
		}
	}
}

func TestP6_14AHouseFails(t *testing.T) {
	r := rand.New(rand.NewSource(14))
	owing := 0
	for _, b := range books(2000) {
		b := clone(b)
		price, house := pick(r, 50, between(r, 1, 1000)), r.Intn(b.Houses)
		fails := func() []int {
			l, e := ring.Fails(b, house, price)
			if e != api.OK {
				t.Fatalf("Fails of %v, house %d at %d: %v", b, house, price, e)
			}
			return l
		}
		lost, has := total(fails()), money(t, b, price)[house]
		if lost < -has {
			t.Fatalf("Fails of %v, house %d at %d: %v; its money is %d", b, house, price, fails(), has)
		}
		if has < 0 {
			owing++
		}
		for i, c := range b.Contracts {
			if c.From == house || c.To == house {
				b.Contracts[i].Price = price
			}
		}
		if len(above(fails())) > 0 {
			t.Fatalf("Fails of %v, house %d at %d: %v", b, house, price, fails())
		}
	}
	if owing < 300 {
		t.Errorf("houses that owe: %d", owing)
	}
}

// TestP7AnyOrder: contracts in another order have the same greatest total, as
// many deliveries, and the same numbers of all houses.
func TestP7AnyOrder(t *testing.T) {
	r := rand.New(rand.NewSource(77))
	for _, b := range books(1000) {
		other := clone(b)
		r.Shuffle(len(b.Contracts), func(i, k int) {
			other.Contracts[i], other.Contracts[k] = other.Contracts[k], other.Contracts[i]
		})
		off, _ := greatest(t, b)
		otherOff, _ := greatest(t, other)
		set, _ := least(t, b)
		otherSet, _ := least(t, other)
		if total(off) != total(otherOff) || len(set) != len(otherSet) {
			t.Fatalf("%v: %v, %v; in another order, %v: %v, %v", b, off, set, other, otherOff, otherSet)
		}
		if !slices.Equal(differences(t, b), differences(t, other)) || !slices.Equal(money(t, b, 50), money(t, other, 50)) {
			t.Fatalf("%v: %v; in another order: %v", b, money(t, b, 50), money(t, other, 50))
		}
	}
}
