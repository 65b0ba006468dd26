package coupon

import (
	"contango/api"
	"contango/lists"
)

// beginning is the day of the shares that the houses have at first.
const beginning = -1

// span is two days, the second one not before the first one.
type span struct{ from, to int }

// factor is a fraction by which splits change the number of shares.
type factor struct{ num, den int }

// holding has the units of each house.
type holding [api.MaxCouponHouses]int

// over returns the factor of the two days.
func (c Company) over(days span) factor {
	f := factor{num: 1, den: 1}
	for _, s := range c.Splits {
		if s.Day > days.from && s.Day <= days.to {
			f.num *= s.Num
			f.den *= s.Den
		}
	}
	return f
}

// units returns the units that the shares of the first day are on the second one.
// It divides last: only then is nothing left over.
func (f factor) units(shares int) int { return shares * api.MaxCouponUnit * f.num / f.den }

// after returns the holding after the seller of the trade has given so many units
// to the buyer.
func (h holding) after(t Trade, units int) holding {
	h[t.Seller] -= units
	h[t.Buyer] += units
	return h
}

// isThere reports whether no house has fewer than 0 units.
func (h holding) isThere() bool {
	there := h
	for house, units := range h {
		there[house] = lists.Greatest(0, units)
	}
	return h == there
}

// money returns what so many pence for each share come to, for each of so many
// houses.
func (h holding) money(pence, houses int) []int {
	list := make([]int, houses)
	for house := range list {
		list[house] = pence * h[house]
	}
	return list
}
