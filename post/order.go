package post

import (
	"slices"

	"contango/api"
	"contango/lists"
)

// isFew reports whether the post has no more orders than there may be.
func (p Post) isFew() bool { return len(p.Orders) <= api.MaxPostOrders }

// isValid reports whether the post is valid, but for how many orders it has.
func (p Post) isValid() bool { return len(p.Orders) > 0 && lists.All(p.Orders, Order.isValid) }

// isValid reports whether the order is valid.
func (o Order) isValid() bool {
	isPriced := o.Limit >= 1 && o.Limit <= api.MaxPostPrice
	return isPriced && o.Number >= 1 && o.Number <= api.MaxPostNumber && o.Minute.isOfMinutes()
}

// isOfMinutes reports whether it is a range of minutes.
func (r Range) isOfMinutes() bool { return r.Lo >= 0 && r.Lo <= r.Hi && r.Hi <= api.MaxPostMinute }

// canComeAt reports whether the order can come at the minute.
func (o Order) canComeAt(minute int) bool { return minute >= o.Minute.Lo && minute <= o.Minute.Hi }

// allows reports whether the list is a truth of the post.
func (p Post) allows(truth []int) bool { return slices.EqualFunc(p.Orders, truth, Order.canComeAt) }

// isAt reports whether the order lets it trade at the price.
func (o Order) isAt(price int) bool {
	if o.Buy {
		return o.Limit >= price
	}
	return o.Limit <= price
}

// canTrade reports whether the order can trade with one that rests, at its limit.
func (o Order) canTrade(resting Order) bool { return o.Buy != resting.Buy && o.isAt(resting.Limit) }

// isBetter reports whether the order has a better limit than another one of its
// side: one at which this one would not trade.
func (o Order) isBetter(other Order) bool { return !other.isAt(o.Limit) }
