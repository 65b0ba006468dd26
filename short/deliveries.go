package short

import "slices"

// total returns what is counted of all houses together.
func (l Ledger) total(a accounts, q quantity) int {
	total := 0
	for house := range l.Register.Houses {
		if l.Lends[house] || !q.ofLenders {
			total += q.amount(a[house])
		}
	}
	return total
}

// isCovered reports whether the houses that lend can lend what all houses lack.
func (l Ledger) isCovered(a accounts) bool {
	lacking := quantity{amount: account.lacks}
	spare := quantity{amount: account.canLend, ofLenders: true}
	return l.total(a, lacking) <= l.total(a, spare)
}

// canBeMade reports whether the deliveries can be made with the hand.
func (l Ledger) canBeMade(h inHand, deliveries []int) bool {
	a := h.accounts()
	for i, d := range l.Dues {
		a = a.after(d, deliveries[i])
	}
	return l.isCovered(a)
}

// isSettled reports whether nothing must be bought in with the hand.
func (l Ledger) isSettled(h inHand) bool {
	all := make([]int, len(l.Dues))
	for i, d := range l.Dues {
		all[i] = d.Number
	}
	return l.canBeMade(h, all)
}

// best returns the best of the deliveries that can be made with the hand and in
// which these dues are whole, and whether there are any. The greatest ones are
// tried first, so that of several by which as much must be bought in the first counts.
func (l Ledger) best(h inHand, whole ...int) (best []int, found bool) {
	list := make([]int, len(l.Dues))
	fewest := 0
	var try func(due, bought int, a accounts)
	try = func(due, bought int, a accounts) {
		if found && bought >= fewest {
			return
		}
		if due == len(list) {
			if l.isCovered(a) {
				best, fewest, found = slices.Clone(list), bought, true
			}
			return
		}
		d := l.Dues[due]
		least := 0
		if slices.Contains(whole, due) {
			least = d.Number
		}
		for n := d.Number; n >= least; n-- {
			list[due] = n
			try(due+1, bought+d.Number-n, a.after(d, n))
		}
	}
	try(0, 0, h.accounts())
	return best, found
}

// bought returns what must be bought in by the deliveries.
func (l Ledger) bought(deliveries []int) int {
	bought := 0
	for i, d := range l.Dues {
		bought += d.Number - deliveries[i]
	}
	return bought
}
