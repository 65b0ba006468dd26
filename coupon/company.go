package coupon

import (
	"slices"

	"contango/api"
	"contango/lists"
)

// has reports whether the number is in the range.
func (r Range) has(n int) bool { return n >= r.Lo && n <= r.Hi }

// with returns the range, widened to have the number.
func (r Range) with(n int) Range {
	return Range{Lo: lists.Least(r.Lo, n), Hi: lists.Greatest(r.Hi, n)}
}

// isDays reports whether it is a range of days.
func (r Range) isDays() bool { return r.Lo <= r.Hi && hasDay(r.Lo) && hasDay(r.Hi) }

// isShort reports whether it is a range of as few days as a trade can have.
func (r Range) isShort() bool { return r.isDays() && r.Hi-r.Lo <= api.MaxCouponWide }

// hasDay reports whether there is such a day.
func hasDay(day int) bool { return day >= 0 && day <= api.MaxCouponDay }

// isHeld reports whether a house can have so many shares at first.
func isHeld(shares int) bool { return shares >= 0 && shares <= api.MaxCouponShares }

// isInOrder reports whether shares that are sold on the one day can be delivered
// on the other one.
func isInOrder(sold, delivered int) bool { return delivered >= sold }

// hasHouse reports whether there is such a house.
func (c Company) hasHouse(house int) bool { return house >= 0 && house < c.Houses }

// hasDividend reports whether there is such a dividend.
func (c Company) hasDividend(dividend int) bool {
	return dividend >= 0 && dividend < len(c.Dividends)
}

// isFew reports whether the company has no more of anything than there may be.
func (c Company) isFew() bool {
	isFew := c.Houses <= api.MaxCouponHouses && len(c.Trades) <= api.MaxCouponTrades
	isFew = isFew && len(c.Dividends) <= api.MaxCouponDividends
	return isFew && len(c.Splits) <= api.MaxCouponSplits && len(c.Closed) <= api.MaxCouponClosed
}

// isValid reports whether the company is valid, but for how many it has of anything.
func (c Company) isValid() bool {
	isStart := c.Houses > 0 && len(c.Held) == c.Houses && lists.All(c.Held, isHeld)
	isTraded := lists.All(c.Trades, c.validTrade) && lists.All(c.Closed, Range.isDays)
	isPaid := lists.All(c.Dividends, Dividend.isValid)
	return isStart && isTraded && isPaid && lists.All(c.Splits, Split.isValid) && c.isSplitInOrder()
}

// validTrade reports whether the trade is valid.
func (c Company) validTrade(t Trade) bool {
	isSale := c.hasHouse(t.Seller) && c.hasHouse(t.Buyer) && t.Seller != t.Buyer
	isNumber := t.Shares >= 1 && t.Shares <= api.MaxCouponShares
	return isSale && isNumber && t.Sold.isShort() && t.Delivered.isShort()
}

// isValid reports whether the dividend is valid.
func (d Dividend) isValid() bool {
	isMoney := d.Pence >= 0 && d.Pence <= api.MaxCouponPence
	return isMoney && hasDay(d.Ex) && hasDay(d.Record) && d.Ex <= d.Record
}

// isValid reports whether the split is valid alone.
func (s Split) isValid() bool {
	isNum := s.Num >= 1 && s.Num <= api.MaxCouponNum
	return isNum && s.Den >= 1 && s.Den <= api.MaxCouponDen && hasDay(s.Day)
}

// isSplitInOrder reports whether each split is after the one before it.
func (c Company) isSplitInOrder() bool {
	for i, s := range c.Splits {
		if i > 0 && s.Day <= c.Splits[i-1].Day {
			return false
		}
	}
	return true
}

// canBeSold reports whether the trade can be sold on this day, as far as its own
// days say.
func (t Trade) canBeSold(day int) bool { return t.Sold.has(day) }

// canBeDelivered reports whether the trade can be delivered on this day, as far as
// its own days say.
func (t Trade) canBeDelivered(day int) bool { return t.Delivered.has(day) }

// allows reports whether the truth has days that each trade can have.
func (c Company) allows(t Truth) bool {
	isSold := slices.EqualFunc(c.Trades, t.Sold, Trade.canBeSold)
	isDelivered := slices.EqualFunc(c.Trades, t.Delivered, Trade.canBeDelivered)
	return isSold && isDelivered && slices.EqualFunc(t.Sold, t.Delivered, isInOrder)
}

// isClosed reports whether the books are closed on this day.
func (c Company) isClosed(day int) bool {
	return slices.ContainsFunc(c.Closed, func(r Range) bool { return r.has(day) })
}

// open returns the first day, from this one on, on which the books are open, or
// Never.
func (c Company) open(from int) int {
	for day := range api.MaxCouponDay + 1 {
		if day >= from && !c.isClosed(day) {
			return day
		}
	}
	return Never
}

// without returns the company without the trades of these indexes.
func (c Company) without(left []int) Company {
	c.Trades = lists.Others(c.Trades, 0, left)
	return c
}
