package ring_test

import (
	"math/rand"
	"slices"

	"contango/api"
	"contango/ring"
)

// The oracle follows the chapter's definitions, and tries everything: all parts
// of contracts, all lists of contracts, all heights. Where the numbers are too
// great for that, deliveries are possible if no set of houses is owed more than
// the contracts that lead into it.

// pick returns one of the elements.
func pick[T any](r *rand.Rand, list ...T) T { return list[r.Intn(len(list))] }

// between returns a number of the range.
func between(r *rand.Rand, low, high int) int { return low + r.Intn(high-low+1) }

// total returns the sum of the numbers.
func total(list []int) (sum int) {
	for _, n := range list {
		sum += n
	}
	return sum
}

// numbers returns the numbers of all contracts.
func numbers(b ring.Book) []int {
	list := []int{}
	for _, c := range b.Contracts {
		list = append(list, c.Number)
	}
	return list
}

// difference returns the sum of the numbers of the contracts that the house buys
// less that of those it sells.
func difference(b ring.Book, list []int, house int) int {
	bought, sold := 0, 0
	for i, c := range b.Contracts {
		if c.To == house {
			bought += list[i]
		}
		if c.From == house {
			sold += list[i]
		}
	}
	return bought - sold
}

// isPart reports whether the list has a number from 0 to its Number for each contract.
func isPart(b ring.Book, list []int) bool {
	if len(list) != len(b.Contracts) {
		return false
	}
	for i, n := range list {
		if n < 0 || n > b.Contracts[i].Number {
			return false
		}
	}
	return true
}

// isSettingOff reports whether the list is one.
func isSettingOff(b ring.Book, off []int) bool {
	if !isPart(b, off) {
		return false
	}
	for house := range b.Houses {
		if difference(b, off, house) != 0 {
			return false
		}
	}
	return true
}

// areDeliveries reports whether the list has deliveries.
func areDeliveries(b ring.Book, list []int) bool {
	if !isPart(b, list) {
		return false
	}
	for house := range b.Houses {
		if difference(b, list, house) != difference(b, numbers(b), house) {
			return false
		}
	}
	return true
}

// proved returns the total that the list proves, and whether it has heights.
func proved(b ring.Book, heights []int) (sum int, ok bool) {
	if len(heights) != b.Houses {
		return 0, false
	}
	for _, h := range heights {
		if h < -10 || h > 10 {
			return 0, false
		}
	}
	for _, c := range b.Contracts {
		if worth := 1 + heights[c.From] - heights[c.To]; worth > 0 {
			sum += c.Number * worth
		}
	}
	return sum, true
}

// leastProved returns the smallest total that heights from 0 to 5 prove. (As the
// houses are at most six, others prove no smaller one.)
func leastProved(b ring.Book) int {
	heights := make([]int, b.Houses)
	least, _ := proved(b, heights)
	var choose func(house int)
	choose = func(house int) {
		if house == b.Houses {
			sum, _ := proved(b, heights)
			least = min(least, sum)
			return
		}
		for h := range 6 {
			heights[house] = h
			choose(house + 1)
		}
	}
	choose(0)
	return least
}

// isRing reports whether these are the contracts of a ring.
func isRing(b ring.Book, list []int) bool {
	from := map[int]bool{}
	for k, i := range list {
		next := list[0]
		if k < len(list)-1 {
			next = list[k+1]
		}
		if i < 0 || i >= len(b.Contracts) || next < 0 || next >= len(b.Contracts) || b.Contracts[i].To != b.Contracts[next].From {
			return false
		}
		from[b.Contracts[i].From] = true
	}
	return len(list) >= 2 && len(from) == len(list)
}

// made returns what the rings make up, and whether it is a setting off.
func made(b ring.Book, l []ring.Ring) ([]int, bool) {
	off := make([]int, len(b.Contracts))
	for _, x := range l {
		if !isRing(b, x.Contracts) || x.Amount < 1 || x.Amount > api.MaxRingNumber {
			return nil, false
		}
		for _, i := range x.Contracts {
			off[i] += x.Amount
		}
	}
	return off, isSettingOff(b, off)
}

// allRings returns the contracts of all rings of the book.
func allRings(b ring.Book) [][]int {
	var list [][]int
	var way []int
	var lead func()
	lead = func() {
		if isRing(b, way) {
			list = append(list, slices.Clone(way))
		}
		for i, c := range b.Contracts {
			sold := func(k int) bool { return b.Contracts[k].From == c.From }
			if !slices.ContainsFunc(way, sold) && (len(way) == 0 || b.Contracts[way[len(way)-1]].To == c.From) {
				way = append(way, i)
				lead()
				way = way[:len(way)-1]
			}
		}
	}
	lead()
	return list
}

// eachPart calls with all lists of numbers from 0 to the Numbers, in
// lexicographic order, until the call returns false.
func eachPart(b ring.Book, call func(list []int) bool) {
	list := make([]int, len(b.Contracts))
	var choose func(i int) bool
	choose = func(i int) bool {
		if i == len(list) {
			return call(list)
		}
		for n := range b.Contracts[i].Number + 1 {
			list[i] = n
			if !choose(i + 1) {
				return false
			}
		}
		return true
	}
	choose(0)
}

// countParts returns how many lists eachPart has.
func countParts(b ring.Book) int {
	many := 1
	for _, c := range b.Contracts {
		many *= c.Number + 1
	}
	return many
}

// greatestTotal returns the greatest total of all settings off.
func greatestTotal(b ring.Book) (most int) {
	eachPart(b, func(off []int) bool {
		if isSettingOff(b, off) {
			most = max(most, total(off))
		}
		return true
	})
	return most
}

// eachSet calls with all increasing lists of contracts, the shorter ones first,
// in lexicographic order, until the call returns false.
func eachSet(b ring.Book, call func(set []int) bool) {
	var sets [][]int
	for bits := range 1 << len(b.Contracts) {
		set := []int{}
		for i := range b.Contracts {
			if bits>>i&1 == 1 {
				set = append(set, i)
			}
		}
		sets = append(sets, set)
	}
	slices.SortFunc(sets, func(x, y []int) int {
		if len(x) != len(y) {
			return len(x) - len(y)
		}
		return slices.Compare(x, y)
	})
	for _, set := range sets {
		if !call(set) {
			return
		}
	}
}

// above returns the contracts whose numbers are above 0.
func above(list []int) []int {
	set := []int{}
	for i, n := range list {
		if n > 0 {
			set = append(set, i)
		}
	}
	return set
}

// fewest returns the smallest set, and the first of all deliveries by it.
func fewest(b ring.Book) (set, deliveries []int) {
	eachPart(b, func(list []int) bool {
		by := above(list)
		isFewer := len(by) < len(set) || len(by) == len(set) && slices.Compare(by, set) < 0
		if areDeliveries(b, list) && (deliveries == nil || isFewer) {
			set, deliveries = by, slices.Clone(list)
		}
		return true
	})
	return set, deliveries
}

// canDeliver reports whether there are numbers from 0 to these limits that make
// the differences: no set of houses is owed more than can come into it.
func canDeliver(b ring.Book, differences, limits []int) bool {
	for houses := range 1 << b.Houses {
		owed := 0
		for house, n := range differences {
			if houses>>house&1 == 1 {
				owed += n
			}
		}
		for i, c := range b.Contracts {
			if houses>>c.From&1 == 0 && houses>>c.To&1 == 1 {
				owed -= limits[i]
			}
		}
		if owed > 0 {
			return false
		}
	}
	return true
}

// differencesOf returns the differences of all houses.
func differencesOf(b ring.Book) (list []int) {
	for house := range b.Houses {
		list = append(list, difference(b, numbers(b), house))
	}
	return list
}

// limitsOf returns the Numbers of the contracts of the set, and 0 for all others.
func limitsOf(b ring.Book, set []int) []int {
	limits := make([]int, len(b.Contracts))
	for _, i := range set {
		limits[i] = b.Contracts[i].Number
	}
	return limits
}

// smallestSet returns the smallest set of a book, however great its numbers are.
func smallestSet(b ring.Book) (found []int) {
	eachSet(b, func(set []int) bool {
		found = set
		return !canDeliver(b, differencesOf(b), limitsOf(b, set))
	})
	return found
}

// isFirst reports whether of all deliveries by the set these are the first ones:
// with the same numbers before it, none can be smaller.
func isFirst(b ring.Book, set, deliveries []int) bool {
	rest, limits := differencesOf(b), limitsOf(b, set)
	for i, n := range deliveries {
		limits[i] = n - 1
		if n > 0 && canDeliver(b, rest, limits) {
			return false
		}
		limits[i] = 0
		rest[b.Contracts[i].To] -= n
		rest[b.Contracts[i].From] += n
	}
	return true
}

// someContract returns any contract between two of the houses. It often leads on
// from the last one.
func someContract(r *rand.Rand, b ring.Book, most int) ring.Contract {
	from := r.Intn(b.Houses)
	if many := len(b.Contracts); many > 0 && r.Intn(3) > 0 {
		from = b.Contracts[many-1].To
	}
	to := (from + between(r, 1, b.Houses-1)) % b.Houses
	return sale(from, to, between(r, 1, most), pick(r, 50, 50, between(r, 45, 55), between(r, 1, 1000)))
}

// someBook returns any book with at most so many contracts, whose Numbers are at
// most so great.
func someBook(r *rand.Rand, contracts, most int) ring.Book {
	b := ring.Book{Houses: between(r, 1, 6)}
	if b.Houses > 1 {
		for range between(r, 0, contracts) {
			b.Contracts = append(b.Contracts, someContract(r, b, most))
		}
	}
	return b
}

// evenBook returns a book of rings, of which some contracts can be missing.
func evenBook(r *rand.Rand, most int) ring.Book {
	b := ring.Book{Houses: between(r, 2, 6)}
	for range between(r, 1, 3) {
		way := r.Perm(b.Houses)[:between(r, 2, b.Houses)]
		number := between(r, 1, most)
		for k, from := range way {
			b.Contracts = append(b.Contracts, sale(from, way[(k+1)%len(way)], number, between(r, 45, 55)))
		}
	}
	r.Shuffle(len(b.Contracts), func(i, k int) { b.Contracts[i], b.Contracts[k] = b.Contracts[k], b.Contracts[i] })
	b.Contracts = b.Contracts[:min(len(b.Contracts), between(r, 5, 8))]
	return b
}

// smallBooks returns so many books of which all parts can be tried.
func smallBooks(many int) []ring.Book {
	r := rand.New(rand.NewSource(int64(many)))
	var list []ring.Book
	for len(list) < many {
		b := pick(r, someBook(r, 8, 2), someBook(r, 7, 3), someBook(r, 5, 6), evenBook(r, 2), evenBook(r, 4))
		if countParts(b) <= 20000 {
			list = append(list, b)
		}
	}
	return list
}

// books returns so many books, with great numbers, too.
func books(many int) []ring.Book {
	r := rand.New(rand.NewSource(int64(many)))
	var list []ring.Book
	for range many {
		list = append(list, pick(r, someBook(r, 8, 4), someBook(r, 8, 30), someBook(r, 8, 100), evenBook(r, 10), evenBook(r, 100)))
	}
	return list
}
