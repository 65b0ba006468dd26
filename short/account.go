package short

import (
	"slices"

	"contango/api"
	"contango/lists"
)

// inHand is how many sheets each house has.
type inHand [api.MaxSheetHouses]int

// account is what a house has in hand, what comes to it, and what it delivers.
type account struct{ has, gets, gives int }

// accounts are those of all houses.
type accounts [api.MaxSheetHouses]account

// quantity is what is counted of each house, or of each one that lends.
type quantity struct {
	amount    func(account) int
	ofLenders bool
}

// handOf returns the hand of a list that is one.
func handOf(list []int) inHand {
	var h inHand
	copy(h[:], list)
	return h
}

// with returns the hand with one more sheet in the house.
func (h inHand) with(house int) inHand {
	h[house]++
	return h
}

// compare returns a number below 0 if the hand is lexicographically before the
// other one, and above 0 if it is after it.
func (h inHand) compare(other inHand) int { return slices.Compare(h[:], other[:]) }

// accounts returns the accounts before anything is delivered.
func (h inHand) accounts() accounts {
	var a accounts
	for house, number := range h {
		a[house].has = number
	}
	return a
}

// after returns the accounts after so many sheets of the due are delivered.
func (a accounts) after(d Due, number int) accounts {
	a[d.From].gives += number
	a[d.To].gets += number
	return a
}

// lacks returns what the house lacks.
func (a account) lacks() int { return lists.Greatest(0, a.gives-a.gets-a.has) }

// canLend returns what the house can lend, if it does: nothing of what comes in.
func (a account) canLend() int {
	return lists.Greatest(0, lists.Least(a.has, a.has+a.gets-a.gives))
}
