package short_test

import (
	"cmp"
	"math/rand"
	"slices"

	"contango/api"
	"contango/sheet"
	"contango/short"
)

// The oracle follows the chapter's definitions, and tries everything: all days of
// all entries, all deliveries, all lists of houses. Samples are ledgers whose
// registers tell what truly happened, or nearly so.

// pick returns one of the elements.
func pick[T any](r *rand.Rand, list ...T) T { return list[r.Intn(len(list))] }

// between returns a number of the range.
func between(r *rand.Rand, low, high int) int { return low + r.Intn(high-low+1) }

// total returns the sum of the numbers.
func total(list []int) (sum int) {
	for _, n := range list {
		sum += n
	}
	return sum
}

// eachTruth calls with the houses of all sheets on all days, in each truth of the register.
func eachTruth(g sheet.Register, call func(houses [][]int)) {
	truth := make([]int, len(g.Entries))
	var choose func(i int)
	choose = func(i int) {
		if i == len(truth) {
			if houses, e := sheet.Play(g, truth); e == api.OK {
				call(houses)
			}
			return
		}
		for day := g.Entries[i].Day.Lo; day <= g.Entries[i].Day.Hi; day++ {
			truth[i] = day
			choose(i + 1)
		}
	}
	choose(0)
}

// countDays returns how many lists of days there are.
func countDays(g sheet.Register) int {
	many := 1
	for _, e := range g.Entries {
		many *= e.Day.Hi - e.Day.Lo + 1
	}
	return many
}

// handIn returns what each house has in hand, if the sheets are in these houses
// at the ends of all days.
func handIn(l short.Ledger, houses [][]int) []int {
	hand := make([]int, l.Register.Houses)
	for _, course := range houses {
		hand[course[l.Day]]++
	}
	return hand
}

// allHands returns all possible hands of the ledger, in lexicographic order.
func allHands(l short.Ledger) [][]int {
	var list [][]int
	eachTruth(l.Register, func(houses [][]int) { list = append(list, handIn(l, houses)) })
	slices.SortFunc(list, slices.Compare)
	return slices.CompactFunc(list, slices.Equal)
}

// comesLess returns what comes to the house, less what it delivers.
func comesLess(l short.Ledger, deliveries []int, house int) int {
	n := 0
	for i, d := range l.Dues {
		if d.To == house {
			n += deliveries[i]
		}
		if d.From == house {
			n -= deliveries[i]
		}
	}
	return n
}

// areMade reports whether the deliveries can be made with the hand.
func areMade(l short.Ledger, hand, deliveries []int) bool {
	lacked, lent := 0, 0
	for house, has := range hand {
		more := comesLess(l, deliveries, house)
		if lacks := -more - has; lacks > 0 {
			lacked += lacks
		}
		if l.Lends[house] {
			lent += max(min(has+more, has), 0)
		}
	}
	return lacked <= lent
}

// boughtBy returns what must be bought in by the deliveries.
func boughtBy(l short.Ledger, deliveries []int) int { return total(numbers(l)) - total(deliveries) }

// numbers returns the Numbers of all dues.
func numbers(l short.Ledger) []int {
	list := make([]int, len(l.Dues))
	for i, d := range l.Dues {
		list[i] = d.Number
	}
	return list
}

// eachDeliveries calls with all deliveries, in lexicographic order.
func eachDeliveries(l short.Ledger, call func(deliveries []int)) {
	list := make([]int, len(l.Dues))
	var choose func(due int)
	choose = func(due int) {
		if due == len(list) {
			call(list)
			return
		}
		for n := range l.Dues[due].Number + 1 {
			list[due] = n
			choose(due + 1)
		}
	}
	choose(0)
}

// countDeliveries returns how many deliveries there are.
func countDeliveries(l short.Ledger) int {
	many := 1
	for _, d := range l.Dues {
		many *= d.Number + 1
	}
	return many
}

// bestOf returns the best deliveries with the hand, and for each due whether it
// can be made.
func bestOf(l short.Ledger, hand []int) (best []int, made []bool) {
	made = make([]bool, len(l.Dues))
	eachDeliveries(l, func(deliveries []int) {
		if !areMade(l, hand, deliveries) {
			return
		}
		for i, n := range deliveries {
			made[i] = made[i] || n == l.Dues[i].Number
		}
		less := total(deliveries) - total(best)
		if best == nil || less > 0 || less == 0 && slices.Compare(deliveries, best) > 0 {
			best = slices.Clone(deliveries)
		}
	})
	return best, made
}

// lending returns the ledger in which these houses lend, too.
func lending(l short.Ledger, houses ...int) short.Ledger {
	l.Lends = slices.Clone(l.Lends)
	for _, house := range houses {
		l.Lends[house] = true
	}
	return l
}

// areEnough reports whether the houses are enough, with these possible hands.
func areEnough(l short.Ledger, hands [][]int, houses []int) bool {
	with := lending(l, houses...)
	return !slices.ContainsFunc(hands, func(hand []int) bool { return !areMade(with, hand, numbers(l)) })
}

// allLists returns all increasing lists of houses that do not lend, the shorter
// ones first, those of one length in lexicographic order.
func allLists(l short.Ledger) [][]int {
	var list [][]int
	for mask := range 1 << l.Register.Houses {
		houses := []int{}
		for house, lends := range l.Lends {
			if mask>>house&1 == 1 && !lends {
				houses = append(houses, house)
			}
		}
		list = append(list, houses)
	}
	slices.SortFunc(list, func(a, b []int) int { return cmp.Or(len(a)-len(b), slices.Compare(a, b)) })
	return slices.CompactFunc(list, slices.Equal)
}

// told is what the calls return of a ledger.
type told struct {
	buyIns   short.Range
	verdicts []int
	enough   []int
	e        api.Errno // of Enough
}

// dueOf returns what is due of the ledger with these possible hands.
func dueOf(l short.Ledger, hands [][]int) told {
	var bought []int
	made := make([]int, len(l.Dues))
	for _, hand := range hands {
		best, can := bestOf(l, hand)
		bought = append(bought, boughtBy(l, best))
		for i, ok := range can {
			if ok {
				made[i]++
			}
		}
	}
	x := told{buyIns: to(slices.Min(bought), slices.Max(bought)), e: api.ErrShort}
	for _, many := range made {
		verdict := short.Open
		if many == len(hands) {
			verdict = short.Always
		} else if many == 0 {
			verdict = short.Never
		}
		x.verdicts = append(x.verdicts, verdict)
	}
	all := allLists(l)
	if at := slices.IndexFunc(all, func(houses []int) bool { return areEnough(l, hands, houses) }); at >= 0 {
		x.enough, x.e = all[at], api.OK
	}
	return x
}

// someEntry returns an entry that can happen now, if the sheets are in these houses.
func someEntry(r *rand.Rand, houses int, where []int, open map[[2]int]int) sheet.Entry {
	e := sheet.Entry{Kind: pick(r, sheet.Pass, sheet.Loan, sheet.Loan), Sheet: r.Intn(len(where))}
	e.From = where[e.Sheet]
	e.To = (e.From + between(r, 1, houses-1)) % houses
	for lender := range houses {
		if r.Intn(3) > 0 && open[[2]int{lender, e.From}] > 0 {
			e.Kind, e.To = sheet.Return, lender
		}
	}
	return e
}

// someRegister returns a register of what happened.
func someRegister(r *rand.Rand, houses int) sheet.Register {
	g := sheet.Register{Houses: houses}
	for range between(r, 1, api.MaxSheetSheets) {
		g.Start = append(g.Start, r.Intn(houses))
	}
	if houses == 1 {
		return g
	}
	where, open := slices.Clone(g.Start), map[[2]int]int{}
	for day := pick(r, 0, 1, 2); len(g.Entries) < 6 && day <= api.MaxSheetDay && r.Intn(9) > 0; day += pick(r, 0, 1, 1, 2) {
		e := someEntry(r, houses, where, open)
		e.Day = sheet.Range{Lo: max(0, day-pick(r, 0, 1, 2)), Hi: min(api.MaxSheetDay, day+pick(r, 0, 1, 3))}
		where[e.Sheet] = e.To
		switch e.Kind {
		case sheet.Loan:
			open[[2]int{e.From, e.To}]++
		case sheet.Return:
			open[[2]int{e.To, e.From}]--
		}
		g.Entries = append(g.Entries, e)
	}
	return g
}

// someDue returns any due between two of the houses, of at most so many sheets.
// It often leads on from the last one.
func someDue(r *rand.Rand, l short.Ledger, most int) short.Due {
	houses := l.Register.Houses
	from := r.Intn(houses)
	if many := len(l.Dues); many > 0 && r.Intn(2) > 0 {
		from = l.Dues[many-1].To
	}
	return due(from, (from+between(r, 1, houses-1))%houses, between(r, 1, most))
}

// someLedger returns any ledger, with dues of at most so many sheets.
func someLedger(r *rand.Rand, most int) short.Ledger {
	houses := pick(r, 1, 2, 3, 3, 4, 4, 4, 4)
	l := short.Ledger{Register: someRegister(r, houses)}
	l.Day = r.Intn(api.MaxSheetDay + 1)
	if many := len(l.Register.Entries); many > 0 && r.Intn(4) > 0 {
		l.Day = l.Register.Entries[r.Intn(many)].Day.Lo
	}
	often := between(r, 0, 3)
	for range houses {
		l.Lends = append(l.Lends, r.Intn(4) < often)
	}
	if houses > 1 {
		for range pick(r, 0, 1, 2, 2, 3, 3, 4, 5, 6) {
			l.Dues = append(l.Dues, someDue(r, l, most))
		}
	}
	return l
}

// someHand returns any hand, possible or not.
func someHand(r *rand.Rand, l short.Ledger) []int {
	hand := make([]int, l.Register.Houses)
	most := between(r, 0, api.MaxSheetSheets)
	for house := range hand {
		hand[house] = between(r, 0, most)
	}
	return hand
}

// ledgers returns so many ledgers, always the same ones, with few enough days to
// be gone through.
func ledgers(many int) []short.Ledger {
	r := rand.New(rand.NewSource(int64(many)))
	var list []short.Ledger
	for len(list) < many {
		if l := someLedger(r, pick(r, 1, 2, 4)); countDays(l.Register) <= 600 {
			list = append(list, l)
		}
	}
	return list
}

// smallLedgers returns so many of which all deliveries can be tried with all
// possible hands.
func smallLedgers(many int) []short.Ledger {
	list := slices.DeleteFunc(ledgers(2*many), func(l short.Ledger) bool { return countDeliveries(l) > 1000 })
	return list[:many]
}
