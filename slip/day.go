package slip

import (
	"slices"

	"contango/api"
	"contango/hand"
	"contango/lists"
)

// deal has the prices and the numbers that a slip can mean, or two slips both can.
type deal struct{ prices, numbers []int }

// field is one of the two notes of a slip.
type field struct {
	of func(Slip) hand.Note
}

// price returns the note of the price.
func (s Slip) price() hand.Note { return s.Price }

// number returns the note of the number.
func (s Slip) number() hand.Note { return s.Number }

// has reports whether the number is in the range.
func (r Range) has(n int) bool { return n >= r.Lo && n <= r.Hi }

// isWithin reports whether the range is one, with both ends in the limits.
func (r Range) isWithin(limits Range) bool {
	return r.Lo <= r.Hi && limits.has(r.Lo) && limits.has(r.Hi)
}

// isNear reports whether some number of the range differs by at most so many
// from some number of the other one.
func (r Range) isNear(other Range, by int) bool {
	return max(r.Lo, other.Lo)-lists.Least(r.Hi, other.Hi) <= by
}

// isFew reports whether the day has no more of anything than there may be.
func (d Day) isFew() bool {
	return d.Houses <= api.MaxSlipHouses && len(d.Signs) <= api.MaxSlipSigns && len(d.Slips) <= api.MaxSlipSlips
}

// isValid reports whether the day is valid, but for the notes of its slips.
func (d Day) isValid() bool {
	lates := Range{Lo: 0, Hi: api.MaxSlipLate}
	return d.Houses > 0 && lates.has(d.Late) && lists.All(d.Signs, d.validSign) && lists.All(d.Slips, d.validSlip)
}

// validSign reports whether the sign is an increasing list of houses.
func (d Day) validSign(sign []int) bool { return isChoice(sign, d.Houses) }

// validSlip reports whether the slip is valid, but for its notes.
func (d Day) validSlip(s Slip) bool {
	houses := Range{Lo: 0, Hi: d.Houses - 1}
	signs := Range{Lo: 0, Hi: len(d.Signs) - 1}
	minutes := Range{Lo: 0, Hi: api.MaxSlipMinute}
	return houses.has(s.House) && signs.has(s.Sign) && s.Minute.isWithin(minutes)
}

// hasSlip reports whether there is such a slip.
func (d Day) hasSlip(slip int) bool { return slip >= 0 && slip < len(d.Slips) }

// checkPair returns the error of two slips, or OK.
func (d Day) checkPair(a, b int) api.Errno {
	if !d.hasSlip(a) || !d.hasSlip(b) {
		return api.ErrRange
	}
	if a == b {
		return api.ErrTwice
	}
	return api.OK
}

// read returns what the slip can mean, and whether its notes are valid.
func (d Day) read(s Slip) (deal, bool) {
	prices, isPrice := d.values(s, field{of: Slip.price})
	numbers, isNumber := d.values(s, field{of: Slip.number})
	return deal{prices: prices, numbers: numbers}, isPrice && isNumber
}

// values returns the values that a note of the slip can have, and whether this
// note is valid. It is, too, if its readings contradict each other.
func (d Day) values(s Slip, f field) ([]int, bool) {
	values, e := hand.Values(d.Hand, f.of(s))
	return values, e == api.OK || e == api.ErrFail
}

// fit reports whether the slips can be partners, as far as all but their notes says.
func (d Day) fit(a, b Slip) bool {
	isSale := a.Bought != b.Bought && a.House != b.House
	return isSale && d.means(a, b.House) && d.means(b, a.House) && a.Minute.isNear(b.Minute, d.Late)
}

// means reports whether the sign of the slip can mean the house.
func (d Day) means(s Slip, house int) bool { return slices.Contains(d.Signs[s.Sign], house) }

// others returns all houses that the sign of the slip can mean, except its own.
func (d Day) others(s Slip) []int {
	houses := slices.Clone(d.Signs[s.Sign])
	return slices.DeleteFunc(houses, func(house int) bool { return house == s.House })
}

// with returns the prices and the numbers of both deals, and whether there are
// some of each.
func (x deal) with(other deal) (deal, bool) {
	both := deal{prices: common(x.prices, other.prices), numbers: common(x.numbers, other.numbers)}
	return both, len(both.prices) > 0 && len(both.numbers) > 0
}

// common returns the numbers of both increasing lists, in increasing order.
func common(a, b []int) []int {
	var list []int
	for _, n := range a {
		if _, ok := slices.BinarySearch(b, n); ok {
			list = append(list, n)
		}
	}
	return list
}

// isChoice reports whether the list is an increasing one of numbers from 0 to
// below the end.
func isChoice(list []int, end int) bool {
	last := -1
	for _, n := range list {
		if n <= last || n >= end {
			return false
		}
		last = n
	}
	return true
}
