package short

import (
	"iter"
	"slices"

	"contango/lists"
	"contango/sheet"
)

// attempt is to make a due with a hand.
type attempt struct {
	hand inHand
	due  int
}

// work is a ledger at work, with all possible hands in lexicographic order, and
// the attempts of which it is known whether they succeed.
type work struct {
	Ledger
	possible []inHand
	succeeds map[attempt]bool
}

// begin returns the ledger at work. It has no possible hands if its register
// contradicts itself.
func (l Ledger) begin() *work {
	w := &work{Ledger: l, succeeds: map[attempt]bool{}}
	for h := range l.hands() {
		if !slices.Contains(w.possible, h) {
			w.possible = append(w.possible, h)
		}
	}
	slices.SortFunc(w.possible, inHand.compare)
	return w
}

// hands returns all possible hands, some of them several times: one for each way
// in which the sheets can lie in the houses at the end of the Day.
func (l Ledger) hands() iter.Seq[inHand] {
	return func(yield func(inHand) bool) {
		var place func(number int, r sheet.Register, h inHand) bool
		place = func(number int, r sheet.Register, h inHand) bool {
			if number == len(r.Start) {
				return yield(h)
			}
			// The sheets before this one are seen where they have been placed. If the
			// register contradicts itself, there are no holders.
			houses, _ := sheet.Holders(r, number, l.Day)
			for _, house := range houses {
				if !place(number+1, l.seen(r, number, house), h.with(house)) {
					return false
				}
			}
			return true
		}
		place(0, l.Register, inHand{})
	}
}

// seen returns the register with a sight of the sheet in the house on the Day.
func (l Ledger) seen(r sheet.Register, number, house int) sheet.Register {
	r.Sights = slices.Concat(r.Sights, []sheet.Sight{{Sheet: number, House: house, Day: l.Day}})
	return r
}

// canMake reports whether the due can be made with the hand.
func (w *work) canMake(a attempt) bool {
	if succeeds, ok := w.succeeds[a]; ok {
		return succeeds
	}
	deliveries, found := w.best(a.hand, a.due)
	w.succeeds[a] = found
	for due, n := range deliveries {
		if n == w.Dues[due].Number {
			w.succeeds[attempt{hand: a.hand, due: due}] = true
		}
	}
	return found
}

// verdict returns whether the due always can be made, never, or is open.
func (w *work) verdict(due int) int {
	canMake := func(h inHand) bool { return w.canMake(attempt{hand: h, due: due}) }
	if lists.All(w.possible, canMake) {
		return Always
	}
	if slices.ContainsFunc(w.possible, canMake) {
		return Open
	}
	return Never
}

// areEnough reports whether nothing must be bought in with any possible hand if
// these houses lend, too.
func (w *work) areEnough(houses []int) bool {
	return lists.All(w.possible, w.lending(houses).isSettled)
}
