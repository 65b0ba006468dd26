package ring_test

import (
	"slices"
	"testing"

	"contango/api"
	"contango/ring"
)

// farthest and lowest are the ends of all ints.
const (
	farthest = 1<<63 - 1
	lowest   = -1 << 63
)

// row returns a list of numbers.
func row(list ...int) []int { return list }

// sale returns a contract.
func sale(from, to, number, price int) ring.Contract {
	return ring.Contract{From: from, To: to, Number: number, Price: price}
}

// part returns a contract at the price 50.
func part(from, to, number int) ring.Contract { return sale(from, to, number, 50) }

// book returns one with these contracts.
func book(houses int, contracts ...ring.Contract) ring.Book {
	return ring.Book{Houses: houses, Contracts: contracts}
}

// theExample is the book of the chapter's examples.
func theExample() ring.Book {
	return book(4, sale(0, 1, 30, 50), sale(1, 2, 20, 52), sale(2, 0, 25, 55), sale(2, 3, 10, 51), sale(3, 1, 5, 60))
}

// back has two contracts that lead from house to house and back.
func back() ring.Book { return book(2, sale(0, 1, 30, 50), sale(1, 0, 12, 40)) }

// twice has two contracts from one house to another one, at prices on both sides of 45.
func twice() ring.Book { return book(3, sale(0, 1, 10, 50), sale(0, 1, 10, 42)) }

// shared has a ring of two contracts and a ring of three, which share the contract 0.
func shared() ring.Book {
	return book(3, part(0, 1, 10), part(1, 0, 10), part(1, 2, 10), part(2, 0, 10))
}

// circle has a contract from each of six houses to the next one.
func circle(number int) ring.Book {
	b := book(6)
	for house := range 6 {
		b.Contracts = append(b.Contracts, part(house, (house+1)%6, number))
	}
	return b
}

func TestP6_1CheckBook(t *testing.T) {
	if e := ring.CheckBook(theExample()); e != api.OK {
		t.Errorf("CheckBook of the example: %v", e)
	}
	for _, x := range append(validChanges(), wrongChanges()...) {
		b := theExample()
		x.change(&b)
		if e := ring.CheckBook(b); e != x.e {
			t.Errorf("CheckBook, %s: %v; want %v", x.name, e, x.e)
		}
	}
}

func TestP6_1Differences(t *testing.T) {
	for _, x := range []struct {
		b    ring.Book
		want []int
	}{
		{theExample(), row(-5, 15, -15, 5)},
		{back(), row(-18, 18)},
		{twice(), row(-20, 20, 0)},
		{circle(100), row(0, 0, 0, 0, 0, 0)},
		{book(1), row(0)},
		{book(3), row(0, 0, 0)},
		{book(6, part(5, 0, 100), part(5, 0, 100), part(4, 5, 1)), row(200, 0, 0, 0, -1, -199)},
	} {
		if got, e := ring.Differences(x.b); !slices.Equal(got, x.want) || e != api.OK {
			t.Errorf("Differences of %v: %v, %v; want %v", x.b, got, e, x.want)
		}
	}
}

func TestP6_2Money(t *testing.T) {
	dearest, cheapest := book(2, sale(0, 1, 100, 1000)), book(2, sale(0, 1, 100, 1))
	for _, x := range []struct {
		b     ring.Book
		price int
		want  []int
	}{
		{theExample(), 52, row(-135, 20, 65, 50)},
		{theExample(), 1, row(1470-1350, 1020+0-1470-295, 1350+500-1020, 295-500)},
		{back(), 45, row(210, -210)},
		{back(), 50, row(120, -120)},
		{twice(), 45, row(20, -20, 0)},
		{twice(), 46, row(0, 0, 0)},
		{twice(), 50, row(-80, 80, 0)},
		{dearest, 1, row(99900, -99900)},
		{dearest, 1000, row(0, 0)},
		{cheapest, 1, row(0, 0)},
		{cheapest, 1000, row(-99900, 99900)},
		{book(1), 7, row(0)},
		{book(3), 1000, row(0, 0, 0)},
	} {
		if got, e := ring.Money(x.b, x.price); !slices.Equal(got, x.want) || e != api.OK {
			t.Errorf("Money of %v at %d: %v, %v; want %v", x.b, x.price, got, e, x.want)
		}
	}
}

func TestP6_2Fails(t *testing.T) {
	for _, x := range []struct {
		b            ring.Book
		house, price int
		want         []int
	}{
		{theExample(), 0, 52, row(0, 60, 75, 0)},
		{theExample(), 1, 52, row(0, 0, 0, 40)},
		{theExample(), 2, 52, row(0, 0, 0, 10)},
		{theExample(), 3, 52, row(0, 0, 0, 0)},
		{theExample(), 3, 50, row(0, 0, 10, 0)},
		{back(), 0, 45, row(0, 0)},
		{back(), 1, 45, row(210, 0)},
		{twice(), 0, 45, row(0, 0, 0)},
		{twice(), 1, 45, row(20, 0, 0)},
		{twice(), 0, 47, row(0, 20, 0)},
		{twice(), 1, 47, row(0, 0, 0)},
		{twice(), 2, 45, row(0, 0, 0)},
		{book(2, sale(0, 1, 100, 1000)), 1, 1, row(99900, 0)},
		{book(2, sale(0, 1, 100, 1)), 0, 1000, row(0, 99900)},
		{book(1), 0, 1, row(0)},
	} {
		if got, e := ring.Fails(x.b, x.house, x.price); !slices.Equal(got, x.want) || e != api.OK {
			t.Errorf("Fails of %v, house %d at %d: %v, %v; want %v", x.b, x.house, x.price, got, e, x.want)
		}
	}
}

// setOff is a book, with its greatest total, its smallest set, and the first
// deliveries by this one.
type setOff struct {
	name            string
	b               ring.Book
	total           int
	set, deliveries []int
}

func allSetOff() []setOff {
	return []setOff{
		{"the example", theExample(), 60, row(0, 2, 3), row(15, 0, 10, 5, 0)},
		{"there and back", back(), 24, row(0), row(18, 0)},
		{"one house", book(1), 0, nil, nil},
		{"no contracts", book(6), 0, nil, nil},
		{"one contract", book(2, part(1, 0, 7)), 0, row(0), row(7)},
		{"one way only", book(3, part(0, 1, 5), part(1, 2, 4)), 0, row(0, 1), row(5, 4)},
		{"two ways, no ring", book(3, part(0, 1, 5), part(1, 2, 5), part(0, 2, 5)), 0, row(0, 1, 2), row(5, 5, 5)},
		{"one ring", book(3, part(0, 1, 5), part(1, 2, 5), part(2, 0, 5)), 15, nil, row(0, 0, 0)},
		{"the longest ring", circle(100), 600, nil, row(0, 0, 0, 0, 0, 0)},
		{"the longer one of two rings", shared(), 30, row(1), row(0, 10, 0, 0)},
		{"the first one of two like", book(2, part(0, 1, 5), part(0, 1, 5), part(1, 0, 7)), 14, row(0), row(3, 0, 0)},
		{"the one that is great enough", book(2, part(0, 1, 2), part(0, 1, 8), part(1, 0, 7)), 14, row(1), row(0, 3, 0)},
		{"the first deliveries of several", book(2, part(0, 1, 2), part(0, 1, 3), part(0, 1, 3), part(1, 0, 4)), 8, row(0, 1), row(1, 3, 0, 0)},
		{"two rings apart", book(4, part(0, 1, 3), part(2, 3, 9), part(3, 2, 8), part(1, 0, 4)), 22, row(1, 3), row(0, 1, 0, 1)},
		{"six houses", book(6, part(0, 1, 10), part(1, 2, 10), part(2, 0, 4), part(2, 3, 6), part(3, 4, 6), part(4, 0, 6), part(4, 5, 9), part(1, 0, 3)), 42, row(6, 7), row(0, 0, 0, 0, 0, 0, 9, 3)},
	}
}

// TestP6_3Greatest: the total is the greatest one, and is proved.
func TestP6_3Greatest(t *testing.T) {
	for _, x := range allSetOff() {
		off, heights, e := ring.Greatest(x.b)
		if e != api.OK || !isSettingOff(x.b, off) || total(off) != x.total {
			t.Errorf("Greatest, %s: %v, %v; want %d", x.name, off, e, x.total)
		}
		if sum, ok := proved(x.b, heights); !ok || sum != x.total {
			t.Errorf("Greatest, %s: heights %v prove %d, %v; want %d", x.name, heights, sum, ok, x.total)
		}
		if !ring.ProveGreatest(x.b, off, heights) {
			t.Errorf("ProveGreatest, %s: %v, %v", x.name, off, heights)
		}
	}
}

func TestP6_3ProveGreatest(t *testing.T) {
	off, heights := row(20, 20, 20, 0, 0), row(1, 2, 0, 1)
	for _, x := range []struct {
		name         string
		b            ring.Book
		off, heights []int
		want         bool
	}{
		{"one", theExample(), off, heights, true},
		{"another one", theExample(), row(15, 20, 15, 5, 5), heights, true},
		{"as high as can be", theExample(), off, row(9, 10, 8, 9), true},
		{"too high", theExample(), off, row(10, 11, 9, 10), false},
		{"as low as can be", theExample(), off, row(-9, -8, -10, -9), true},
		{"too low", theExample(), off, row(-10, -9, -11, -10), false},
		{"too far away", theExample(), off, row(lowest, farthest, lowest, farthest), false},
		{"a height too few", theExample(), off, row(1, 2, 0), false},
		{"a height too many", theExample(), off, row(1, 2, 0, 1, 1), false},
		{"no heights", theExample(), off, nil, false},
		{"heights that prove more", theExample(), off, row(0, 0, 0, 0), false},
		{"a smaller total", theExample(), row(19, 19, 19, 0, 0), heights, false},
		{"nothing set off", theExample(), row(0, 0, 0, 0, 0), heights, false},
		{"a number too few", theExample(), row(20, 20, 20, 0), heights, false},
		{"a number too many", theExample(), row(20, 20, 20, 0, 0, 0), heights, false},
		{"no numbers", theExample(), nil, heights, false},
		{"more than its Number", theExample(), row(21, 21, 21, 0, 0), heights, false},
		{"no setting off", theExample(), row(20, 20, 20, 0, 1), heights, false},
		{"no setting off, of the same total", theExample(), row(30, 20, 10, 0, 0), heights, false},
		{"below 0", theExample(), row(-1, -1, -1, 0, 0), heights, false},
		{"all proved, but more than its Number", book(2, part(0, 1, 5), part(1, 0, 3)), row(4, 4), row(0, 1), false},
		{"all proved", book(2, part(0, 1, 5), part(1, 0, 3)), row(3, 3), row(0, 1), true},
		{"the other way up", book(2, part(0, 1, 5), part(1, 0, 3)), row(3, 3), row(1, 0), false},
		{"no contracts", book(2), nil, row(10, -10), true},
		{"no contracts, and a number", book(2), row(0), row(0, 0), false},
		{"one house", book(1), nil, row(10), true},
		{"one house, and no height", book(1), nil, nil, false},
		{"no book", ring.Book{}, nil, nil, false},
	} {
		if got := ring.ProveGreatest(x.b, x.off, x.heights); got != x.want {
			t.Errorf("ProveGreatest, %s: %v", x.name, got)
		}
	}
}

// TestP6_4Rings: they make up the greatest total, and are no more than the contracts.
func TestP6_4Rings(t *testing.T) {
	for _, x := range allSetOff() {
		l, e := ring.Rings(x.b)
		off, ok := made(x.b, l)
		if e != api.OK || len(l) > len(x.b.Contracts) || !ok || total(off) != x.total {
			t.Errorf("Rings, %s: %v, %v; want %d", x.name, l, e, x.total)
		}
		for wanted, want := range map[int]bool{lowest: true, 0: true, x.total: true, x.total + 1: false, farthest: false} {
			if got := ring.ProveRings(x.b, l, wanted); got != want {
				t.Errorf("ProveRings, %s: %v, %d: %v", x.name, l, wanted, got)
			}
		}
	}
}

// ringOf returns a ring.
func ringOf(amount int, contracts ...int) ring.Ring {
	return ring.Ring{Contracts: contracts, Amount: amount}
}

func TestP6_4ProveRings(t *testing.T) {
	eachTwice := book(3, part(0, 1, 100), part(1, 2, 100), part(2, 0, 100), part(0, 1, 100))
	for _, x := range []struct {
		name  string
		b     ring.Book
		l     []ring.Ring
		total int
		want  bool
	}{
		{"no rings", theExample(), nil, 0, true},
		{"no rings, and a total", theExample(), nil, 1, false},
		{"no rings, and any total", theExample(), nil, lowest, true},
		{"one", theExample(), []ring.Ring{ringOf(20, 0, 1, 2)}, 60, true},
		{"too small a total", theExample(), []ring.Ring{ringOf(20, 0, 1, 2)}, 61, false},
		{"a part of it", theExample(), []ring.Ring{ringOf(3, 0, 1, 2)}, 9, true},
		{"from another house on", theExample(), []ring.Ring{ringOf(20, 2, 0, 1)}, 60, true},
		{"two", theExample(), []ring.Ring{ringOf(15, 2, 0, 1), ringOf(5, 4, 1, 3)}, 60, true},
		{"one twice", theExample(), []ring.Ring{ringOf(15, 0, 1, 2), ringOf(5, 0, 1, 2)}, 60, true},
		{"in another order", theExample(), []ring.Ring{ringOf(1, 0, 2, 1)}, 0, false},
		{"more than a Number", theExample(), []ring.Ring{ringOf(21, 0, 1, 2)}, 0, false},
		{"together more than a Number", theExample(), []ring.Ring{ringOf(20, 0, 1, 2), ringOf(1, 1, 3, 4)}, 0, false},
		{"no amount", theExample(), []ring.Ring{ringOf(0, 0, 1, 2)}, 0, false},
		{"an amount below 0", theExample(), []ring.Ring{ringOf(-1, 0, 1, 2)}, lowest, false},
		{"amounts below 0 that are not seen", theExample(), []ring.Ring{ringOf(20, 0, 1, 2), ringOf(-1, 0, 1, 2)}, 0, false},
		{"the greatest amount", theExample(), []ring.Ring{ringOf(farthest, 0, 1, 2)}, 0, false},
		{"the greatest amount twice", theExample(), []ring.Ring{ringOf(farthest, 0, 1, 2), ringOf(farthest, 0, 1, 2)}, lowest, false},
		{"the greatest amount after another one", theExample(), []ring.Ring{ringOf(20, 0, 1, 2), ringOf(farthest, 0, 1, 2)}, lowest, false},
		{"no way back", theExample(), []ring.Ring{ringOf(1, 0, 1)}, 0, false},
		{"one contract", theExample(), []ring.Ring{ringOf(1, 0)}, 0, false},
		{"no contract", theExample(), []ring.Ring{ringOf(1)}, 0, false},
		{"no such contract", theExample(), []ring.Ring{ringOf(1, 0, 1, 5)}, 0, false},
		{"a contract below 0", theExample(), []ring.Ring{ringOf(1, 0, 1, -1)}, 0, false},
		{"a contract far away", theExample(), []ring.Ring{ringOf(1, 0, farthest, lowest)}, 0, false},
		{"two rings in one", theExample(), []ring.Ring{ringOf(1, 0, 1, 3, 4, 1, 2)}, 0, false},
		{"all of it twice", theExample(), []ring.Ring{ringOf(1, 0, 1, 2, 0, 1, 2)}, 0, false},
		{"a house twice", eachTwice, []ring.Ring{ringOf(1, 0, 1, 2, 3, 1, 2)}, 0, false},
		{"each of two contracts", eachTwice, []ring.Ring{ringOf(60, 0, 1, 2), ringOf(40, 3, 1, 2)}, 300, true},
		{"a ring, and none", eachTwice, []ring.Ring{ringOf(60, 0, 1, 2), ringOf(40, 3, 1, 0)}, 0, false},
		{"two contracts", back(), []ring.Ring{ringOf(12, 0, 1)}, 24, true},
		{"two contracts, from the other one on", back(), []ring.Ring{ringOf(12, 1, 0)}, 24, true},
		{"two contracts, one way", twice(), []ring.Ring{ringOf(1, 0, 1)}, 0, false},
		{"six contracts", circle(100), []ring.Ring{ringOf(100, 3, 4, 5, 0, 1, 2)}, 600, true},
		{"no book", ring.Book{}, nil, 0, false},
	} {
		if got := ring.ProveRings(x.b, x.l, x.total); got != x.want {
			t.Errorf("ProveRings, %s: %v", x.name, got)
		}
	}
}

func TestP6_5Fewest(t *testing.T) {
	for _, x := range allSetOff() {
		set, deliveries, e := ring.Fewest(x.b)
		if !slices.Equal(set, x.set) || !slices.Equal(deliveries, x.deliveries) || e != api.OK {
			t.Errorf("Fewest, %s: %v, %v, %v; want %v, %v", x.name, set, deliveries, e, x.set, x.deliveries)
		}
		for many, want := range map[int]bool{len(x.set): true, farthest: true, len(x.set) - 1: false, lowest: false} {
			if got := ring.ProveDeliveries(x.b, deliveries, many); got != want {
				t.Errorf("ProveDeliveries, %s: %v, %d: %v", x.name, deliveries, many, got)
			}
		}
	}
}

func TestP6_5ProveDeliveries(t *testing.T) {
	for _, x := range []struct {
		name string
		b    ring.Book
		l    []int
		many int
		want bool
	}{
		{"the fewest", theExample(), row(15, 0, 10, 5, 0), 3, true},
		{"too many", theExample(), row(15, 0, 10, 5, 0), 2, false},
		{"all", theExample(), row(30, 20, 25, 10, 5), 5, true},
		{"all but one", theExample(), row(10, 0, 5, 10, 5), 4, true},
		{"all but one, and too many", theExample(), row(10, 0, 5, 10, 5), 3, false},
		{"a number too few", theExample(), row(15, 0, 10, 5), 9, false},
		{"a number too many", theExample(), row(15, 0, 10, 5, 0, 0), 9, false},
		{"other differences", theExample(), row(15, 0, 10, 5, 1), 9, false},
		{"other differences of two houses", theExample(), row(14, 0, 10, 5, 0), 9, false},
		{"more than its Number", theExample(), row(31, 16, 26, 5, 0), 9, false},
		{"below 0", theExample(), row(14, -1, 9, 5, 0), 9, false},
		{"nothing", theExample(), row(0, 0, 0, 0, 0), 9, false},
		{"no list", theExample(), nil, 9, false},
		{"far away", theExample(), row(farthest, lowest, farthest, lowest, farthest), 9, false},
		{"nothing in a ring", circle(3), row(0, 0, 0, 0, 0, 0), 0, true},
		{"a part of a ring", circle(3), row(2, 2, 2, 2, 2, 2), 6, true},
		{"no contracts", book(2), nil, 0, true},
		{"no contracts, and fewer", book(2), nil, -1, false},
		{"no book", ring.Book{}, nil, 0, false},
	} {
		if got := ring.ProveDeliveries(x.b, x.l, x.many); got != x.want {
			t.Errorf("ProveDeliveries, %s: %v", x.name, got)
		}
	}
}

// TestP6_3Example: the settings off and the heights of the chapter.
func TestP6_3Example(t *testing.T) {
	b := theExample()
	if sum, ok := proved(b, row(1, 2, 0, 1)); sum != 60 || !ok || leastProved(b) != 60 {
		t.Errorf("the heights prove %d, %v", sum, ok)
	}
	for _, off := range [][]int{row(20, 20, 20, 0, 0), row(15, 20, 15, 5, 5)} {
		if !isSettingOff(b, off) || total(off) != 60 {
			t.Errorf("%v is not set off", off)
		}
	}
}
