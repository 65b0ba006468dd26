package ring

import (
	"slices"

	"contango/api"
	"contango/lists"
)

// isRing reports whether it is a ring of the book.
func (b Book) isRing(r Ring) bool {
	many := len(r.Contracts)
	if many < 2 || r.Amount < 1 || !lists.All(r.Contracts, b.hasContract) {
		return false
	}
	var sold [api.MaxRingHouses]bool
	for k, i := range r.Contracts {
		c, next := b.Contracts[i], b.Contracts[r.Contracts[(k+1)%many]]
		if c.To != next.From || sold[c.From] {
			return false
		}
		sold[c.From] = true
	}
	return true
}

// madeUp returns what the rings set off by each contract, and whether no contract
// has less.
func (b Book) madeUp(l []Ring) ([]int, bool) {
	off := make([]int, len(b.Contracts))
	for _, r := range l {
		for _, i := range r.Contracts {
			// What is left is compared, as amounts can be too great to be added up.
			if r.Amount > b.Contracts[i].Number-off[i] {
				return nil, false
			}
			off[i] += r.Amount
		}
	}
	return off, true
}

// rings returns rings that make up the setting off. They are no more than the
// contracts, as each of them takes all that is left of one.
func (b Book) rings(off []int) []Ring {
	left := make([]int, len(off))
	copy(left, off)
	var list []Ring
	for first := range left {
		for left[first] > 0 {
			r := b.ringAfter(first, left)
			for _, i := range r.Contracts {
				left[i] -= r.Amount
			}
			list = append(list, r)
		}
	}
	return list
}

// ringAfter returns the first ring on a way that begins with this contract, and
// leads along contracts of which something is left: all that is left of it.
func (b Book) ringAfter(first int, left []int) Ring {
	// What is left is a setting off: where one of these contracts leads, one begins.
	var sale [api.MaxRingHouses]int
	for i, c := range b.Contracts {
		if left[i] > 0 {
			sale[c.From] = i
		}
	}
	var way []int
	for next := first; ; next = sale[b.Contracts[next].To] {
		isBack := func(i int) bool { return b.Contracts[i].From == b.Contracts[next].From }
		if start := slices.IndexFunc(way, isBack); start >= 0 {
			way = way[start:]
			break
		}
		way = append(way, next)
	}
	amount := left[way[0]]
	for _, i := range way {
		amount = lists.Least(amount, left[i])
	}
	return Ring{Contracts: way, Amount: amount}
}
