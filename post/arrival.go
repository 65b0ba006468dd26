package post

import (
	"cmp"
	"iter"
	"slices"

	"contango/lists"
)

// arrival is an order that comes at a minute.
type arrival struct{ minute, order int }

// compare returns a number below 0 if it comes before the other one, and above 0 if
// it comes after it.
func (a arrival) compare(other arrival) int {
	return cmp.Or(cmp.Compare(a.minute, other.minute), cmp.Compare(a.order, other.order))
}

// arrivals returns the orders of the truth as they come.
func arrivals(truth []int) []arrival {
	list := make([]arrival, len(truth))
	for order, minute := range truth {
		list[order] = arrival{minute: minute, order: order}
	}
	slices.SortFunc(list, arrival.compare)
	return list
}

// soonest returns the order as it comes at its first minute after the last arrival.
func (p Post) soonest(order int, last arrival) arrival {
	a := arrival{minute: lists.Greatest(p.Orders[order].Minute.Lo, last.minute), order: order}
	if a.compare(last) < 0 {
		a.minute++
	}
	return a
}

// comers returns those of the waiting orders that can come next after the last
// arrival, with their indexes.
func (p Post) comers(waiting []int, last arrival) iter.Seq2[int, arrival] {
	return func(yield func(int, arrival) bool) {
		for i, order := range waiting {
			a := p.soonest(order, last)
			if p.Orders[order].canComeAt(a.minute) && !yield(i, a) {
				return
			}
		}
	}
}

// truths returns one truth for each order in which the orders of the post can come.
// What follows is the same in all truths in which they come so; and if there is
// one, there is one in which each of them comes as soon as it can.
func (p Post) truths() iter.Seq[[]int] {
	return func(yield func([]int) bool) {
		truth := make([]int, len(p.Orders))
		waiting := make([]int, len(p.Orders))
		for order := range waiting {
			waiting[order] = order
		}
		var come func(waiting []int, last arrival) bool
		come = func(waiting []int, last arrival) bool {
			if len(waiting) == 0 {
				return yield(slices.Clone(truth))
			}
			for i, a := range p.comers(waiting, last) {
				truth[a.order] = a.minute
				if !come(lists.Others(waiting, 0, []int{i}), a) {
					return false
				}
			}
			return true
		}
		// No order has come yet: what comes first comes after one before all of them.
		come(waiting, arrival{order: -1})
	}
}
