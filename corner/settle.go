package corner

import (
	"cmp"
	"iter"
	"slices"

	"contango/lists"
)

// cheapest returns the houses in the order of their Asks.
func (m Market) cheapest() iter.Seq[int] {
	return func(yield func(int) bool) {
		order := make([]int, len(m.Houses))
		for house := range order {
			order[house] = house
		}
		slices.SortStableFunc(order, func(x, y int) int { return cmp.Compare(m.Houses[x].Ask, m.Houses[y].Ask) })
		for _, house := range order {
			if !yield(house) {
				return
			}
		}
	}
}

// settle lets the sales happen by which each house buys its need as cheaply as can
// be, and returns them. The stock must not be cornered.
func (w *work) settle() []Sale {
	var list []Sale
	for from := range w.cheapest() {
		if w.isSettled() {
			break
		}
		for to := range w.Houses {
			s := Sale{From: from, To: to, Shares: lists.Least(w.spare(from), w.need(to))}
			if w.canHappen(s) {
				w.happen(s)
				list = append(list, s)
			}
		}
	}
	return list
}

// canHappen reports whether it is a sale, the house From can spare the shares, and
// the house To needs all of them. These are not one house: none has both a need and
// spare shares.
func (w *work) canHappen(s Sale) bool {
	isSome := w.hasHouses(s.From, s.To) && s.Shares >= 1
	return isSome && s.Shares <= w.spare(s.From) && s.Shares <= w.need(s.To)
}

// happen moves the shares of the sale.
func (w *work) happen(s Sale) {
	w.at[s.From] -= s.Shares
	w.at[s.To] += s.Shares
}

// isSettledBy lets the sales happen, and reports whether all of them can, and no
// house has a need after them.
func (w *work) isSettledBy(list []Sale) bool {
	for _, s := range list {
		if !w.canHappen(s) {
			return false
		}
		w.happen(s)
	}
	return w.isSettled()
}

// cost returns what the sales cost.
func (m Market) cost(list []Sale) int {
	sum := 0
	for _, s := range list {
		sum += s.Shares * m.Houses[s.From].Ask
	}
	return sum
}
