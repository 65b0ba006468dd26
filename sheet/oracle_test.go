package sheet_test

import (
	"cmp"
	"math/rand"
	"slices"

	"contango/api"
	"contango/sheet"
)

// The oracle follows the chapter's definitions, and tries everything: all lists
// of days, and all sets of what is left out. Samples are registers that tell
// what truly happened, or nearly so.

// pick returns one of the elements.
func pick[T any](r *rand.Rand, list ...T) T { return list[r.Intn(len(list))] }

// between returns a number of the range.
func between(r *rand.Rand, low, high int) int { return low + r.Intn(high-low+1) }

// inOrder returns the entries that happen by the day, in the order in which they do.
func inOrder(truth []int, day int) []int {
	var list []int
	for i := range truth {
		if truth[i] <= day {
			list = append(list, i)
		}
	}
	slices.SortFunc(list, func(a, b int) int { return cmp.Or(truth[a]-truth[b], a-b) })
	return list
}

// houseOf returns the house of the sheet after these entries.
func houseOf(r sheet.Register, past []int, number int) int {
	house := r.Start[number]
	for _, i := range past {
		if r.Entries[i].Sheet == number {
			house = r.Entries[i].To
		}
	}
	return house
}

// openOf returns the open loans of the lender to the borrower after these entries.
func openOf(r sheet.Register, past []int, lender, borrower int) int {
	loans, returns := 0, 0
	for _, i := range past {
		e := r.Entries[i]
		if e.Kind == sheet.Loan && e.From == lender && e.To == borrower {
			loans++
		}
		if e.Kind == sheet.Return && e.From == borrower && e.To == lender {
			returns++
		}
	}
	return loans - returns
}

// canHappen reports whether the entry can happen after these.
func canHappen(r sheet.Register, past []int, e sheet.Entry) bool {
	if houseOf(r, past, e.Sheet) != e.From {
		return false
	}
	return e.Kind != sheet.Return || openOf(r, past, e.To, e.From) >= 1
}

// happens reports whether each entry can happen on its day of the list.
func happens(r sheet.Register, truth []int) bool {
	all := inOrder(truth, api.MaxSheetDay)
	for k, i := range all {
		if !canHappen(r, all[:k], r.Entries[i]) {
			return false
		}
	}
	return true
}

// isTruth reports whether the list, of which each day is one of its entry's, is
// a truth of the register.
func isTruth(r sheet.Register, truth []int) bool {
	for _, s := range r.Sights {
		if houseOf(r, inOrder(truth, s.Day), s.Sheet) != s.House {
			return false
		}
	}
	return happens(r, truth)
}

// eachList calls with each list of days, until the call returns false.
func eachList(r sheet.Register, call func(truth []int) bool) {
	truth := make([]int, len(r.Entries))
	var choose func(i int) bool
	choose = func(i int) bool {
		if i == len(truth) {
			return call(truth)
		}
		for day := r.Entries[i].Day.Lo; day <= r.Entries[i].Day.Hi; day++ {
			truth[i] = day
			if !choose(i + 1) {
				return false
			}
		}
		return true
	}
	choose(0)
}

// allTruths returns all truths of the register.
func allTruths(r sheet.Register) [][]int {
	var list [][]int
	eachList(r, func(truth []int) bool {
		if isTruth(r, truth) {
			list = append(list, slices.Clone(truth))
		}
		return true
	})
	return list
}

// hasTruth reports whether the register has one.
func hasTruth(r sheet.Register) bool {
	found := false
	eachList(r, func(truth []int) bool {
		found = isTruth(r, truth)
		return !found
	})
	return found
}

// without returns the register without the entries and sights of these indexes.
func without(r sheet.Register, left []int) sheet.Register {
	kept := sheet.Register{Houses: r.Houses, Start: r.Start}
	for i, e := range r.Entries {
		if !slices.Contains(left, i) {
			kept.Entries = append(kept.Entries, e)
		}
	}
	for k, s := range r.Sights {
		if !slices.Contains(left, len(r.Entries)+k) {
			kept.Sights = append(kept.Sights, s)
		}
	}
	return kept
}

// allSets returns all increasing lists of indexes of the register, the shorter
// ones first, those of one length in lexicographic order.
func allSets(r sheet.Register) [][]int {
	end := len(r.Entries) + len(r.Sights)
	var list [][]int
	for mask := range 1 << end {
		var set []int
		for i := range end {
			if mask>>i&1 == 1 {
				set = append(set, i)
			}
		}
		list = append(list, set)
	}
	slices.SortFunc(list, func(a, b []int) int { return cmp.Or(len(a)-len(b), slices.Compare(a, b)) })
	return list
}

// smallestSet returns the first set that can be left out.
func smallestSet(r sheet.Register) []int {
	for _, set := range allSets(r) {
		if hasTruth(without(r, set)) {
			return set
		}
	}
	panic("without all entries and sights there is a truth")
}

// firstWrong returns the first entry with which the entries have no truth, and
// whether there is one.
func firstWrong(r sheet.Register) (int, bool) {
	for n := range r.Entries {
		if !hasTruth(sheet.Register{Houses: r.Houses, Start: r.Start, Entries: r.Entries[:n+1]}) {
			return n, true
		}
	}
	return 0, false
}

// sample is a valid register, with what truly happened, unless it was spoilt,
// and with all truths.
type sample struct {
	r      sheet.Register
	what   []int
	truths [][]int
}

// someEntry returns an entry that can happen after these, of two houses at least.
func someEntry(r *rand.Rand, g sheet.Register, past []int, day int) sheet.Entry {
	e := sheet.Entry{Kind: pick(r, sheet.Pass, sheet.Loan, sheet.Loan), Sheet: r.Intn(len(g.Start))}
	e.From = houseOf(g, past, e.Sheet)
	e.To = (e.From + between(r, 1, g.Houses-1)) % g.Houses
	for lender := range g.Houses {
		if r.Intn(3) > 0 && openOf(g, past, lender, e.From) > 0 {
			e.Kind, e.To = sheet.Return, lender
		}
	}
	e.Day = to(max(0, day-pick(r, 0, 0, 1, 3)), min(api.MaxSheetDay, day+pick(r, 0, 0, 1, 3)))
	return e
}

// someHistory returns a register of what happened, and its days.
func someHistory(r *rand.Rand) (sheet.Register, []int) {
	g := sheet.Register{Houses: between(r, 2, api.MaxSheetHouses)}
	for range between(r, 1, api.MaxSheetSheets) {
		g.Start = append(g.Start, r.Intn(g.Houses))
	}
	g.Entries = make([]sheet.Entry, pick(r, 0, 1, 2, 3, 4, 5, 6))
	what := make([]int, len(g.Entries))
	step := pick(r, 1, 3)
	for i := range what {
		what[i] = step * between(r, 0, api.MaxSheetDay/step)
	}
	all := inOrder(what, api.MaxSheetDay)
	for k, i := range all {
		g.Entries[i] = someEntry(r, g, all[:k], what[i])
	}
	for range pick(r, 0, 0, 1, 2, 3, 4) {
		number, day := r.Intn(len(g.Start)), between(r, 0, api.MaxSheetDay)
		g.Sights = append(g.Sights, sight(number, houseOf(g, inOrder(what, day), number), day))
	}
	return g, what
}

// spoil changes an entry or a sight.
func spoil(r *rand.Rand, g *sheet.Register) {
	if len(g.Sights) > 0 && r.Intn(2) == 0 {
		s := &g.Sights[r.Intn(len(g.Sights))]
		s.House = (s.House + 1) % g.Houses
		return
	}
	if len(g.Entries) == 0 {
		return
	}
	e := &g.Entries[r.Intn(len(g.Entries))]
	switch r.Intn(4) {
	case 0:
		e.Kind = between(r, sheet.Pass, sheet.Return)
	case 1:
		e.Sheet = r.Intn(len(g.Start))
	case 2:
		e.From, e.To = e.To, e.From
	case 3:
		low := between(r, 0, api.MaxSheetDay)
		e.Day = to(low, min(api.MaxSheetDay, low+r.Intn(3)))
	}
}

// countLists returns how many lists of days there are.
func countLists(g sheet.Register) int {
	many := 1
	for _, e := range g.Entries {
		many *= e.Day.Hi - e.Day.Lo + 1
	}
	return many
}

// someSample returns a sample with few enough lists to be gone through.
func someSample(r *rand.Rand, most int) sample {
	for {
		g, what := someHistory(r)
		if r.Intn(3) == 0 {
			for range between(r, 1, 3) {
				spoil(r, &g)
			}
			what = nil
		}
		if countLists(g) <= most {
			return sample{g, what, allTruths(g)}
		}
	}
}

// samples returns so many samples, always the same ones.
func samples(many int) []sample {
	r := rand.New(rand.NewSource(1901))
	var list []sample
	for range many {
		list = append(list, someSample(r, 600))
	}
	return list
}

// asked is what the calls return of all sheets and houses at the end of a day.
type asked struct {
	holders [][]int
	surely  [][]int
	inHand  []sheet.Range
	owed    [][]sheet.Range
}

// dueOn returns what is due of the sample at the end of the day, by all truths.
func (s sample) dueOn(day int) asked {
	var a asked
	var pasts [][]int
	for _, truth := range s.truths {
		pasts = append(pasts, inOrder(truth, day))
	}
	for number := range s.r.Start {
		var houses []int
		for _, past := range pasts {
			houses = append(houses, houseOf(s.r, past, number))
		}
		slices.Sort(houses)
		a.holders = append(a.holders, slices.Compact(houses))
	}
	for house := range s.r.Houses {
		a.surely = append(a.surely, s.surely(pasts, house))
		a.inHand = append(a.inHand, s.bounds(pasts, func(past []int) int { return len(s.inHand(past, house)) }))
		var owed []sheet.Range
		for borrower := range s.r.Houses {
			owed = append(owed, s.bounds(pasts, func(past []int) int { return openOf(s.r, past, house, borrower) }))
		}
		a.owed = append(a.owed, owed)
	}
	return a
}

// inHand returns the sheets in the house after these entries.
func (s sample) inHand(past []int, house int) []int {
	var list []int
	for number := range s.r.Start {
		if houseOf(s.r, past, number) == house {
			list = append(list, number)
		}
	}
	return list
}

// surely returns the sheets that are in the house whatever has happened of these.
func (s sample) surely(pasts [][]int, house int) []int {
	list := s.inHand(pasts[0], house)
	for _, past := range pasts {
		held := s.inHand(past, house)
		list = slices.DeleteFunc(list, func(number int) bool { return !slices.Contains(held, number) })
	}
	return list
}

// bounds returns the bounds of what is counted, whatever has happened of these.
func (s sample) bounds(pasts [][]int, count func(past []int) int) sheet.Range {
	var numbers []int
	for _, past := range pasts {
		numbers = append(numbers, count(past))
	}
	return to(slices.Min(numbers), slices.Max(numbers))
}
