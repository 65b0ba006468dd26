package odd

import (
	"contango/api"
	"contango/lists"
)

// has reports whether the number is in the range.
func (r Range) has(n int) bool { return n >= r.Lo && n <= r.Hi }

// isWithin reports whether the range is one, with both ends in the limits.
func (r Range) isWithin(limits Range) bool {
	return r.Lo <= r.Hi && limits.has(r.Lo) && limits.has(r.Hi)
}

// isValid reports whether the desk is valid, but for its tape, and how many
// orders it has.
func (d Desk) isValid() bool {
	fees := Range{Lo: 0, Hi: api.MaxOddFee}
	return fees.has(d.Fee) && lists.All(d.Orders, d.validOrder)
}

// validOrder reports whether the order is valid.
func (d Desk) validOrder(o Order) bool {
	stocks := Range{Lo: 0, Hi: len(d.Board.Stocks) - 1}
	numbers := Range{Lo: 1, Hi: api.MaxOddNumber}
	limits := Range{Lo: 0, Hi: api.MaxTapePrice}
	minutes := Range{Lo: 0, Hi: api.MaxTapeMinute}
	return stocks.has(o.Stock) && numbers.has(o.Number) && limits.has(o.Limit) && o.Minute.isWithin(minutes)
}

// hasOrder reports whether there is such an order.
func (d Desk) hasOrder(order int) bool { return order >= 0 && order < len(d.Orders) }

// cost returns the price of the order, if it is filled by a sale at this one.
func (d Desk) cost(o Order, price int) int {
	if o.Buy {
		return price + d.Fee
	}
	return max(0, price-d.Fee)
}

// lets reports whether a sale of its stock at this price lets the order trade.
func (d Desk) lets(o Order, price int) bool {
	cost := d.cost(o, price)
	return o.Limit == 0 || o.Buy && cost <= o.Limit || !o.Buy && cost >= o.Limit
}

// given returns the shares that the house gets by the order, below 0 if it gives them.
func (o Order) given() int {
	if o.Buy {
		return -o.Number
	}
	return o.Number
}

// canCome reports whether the order can have come at this minute.
func (o Order) canCome(minute int) bool { return o.Minute.has(minute) }
