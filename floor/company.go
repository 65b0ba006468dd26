package floor

import (
	"slices"

	"contango/api"
	"contango/coupon"
	"contango/lists"
)

// hasDividend reports whether there is such a dividend.
func (b *book) hasDividend(k int) bool { return k >= 0 && k < len(b.Company.Dividends) }

// isOfCoupon reports whether the package coupon allows what this company has
// beside its houses.
func isOfCoupon(c coupon.Company) bool {
	c.Houses, c.Held = api.MaxFloorHouses, make([]int, api.MaxFloorHouses)
	return coupon.CheckCompany(c) == api.OK
}

// setHeld sets how many shares a house has at first.
func (b *book) setHeld(p parts) {
	house, shares := p.numbers[0], p.numbers[1]
	refuse(api.ErrNone, !isHouse(house))
	refuse(api.ErrRange, shares > api.MaxCouponShares)
	c := b.Company
	c.Held = slices.Clone(c.Held)
	c.Held[house] = shares
	b.keepCompany(c)
}

// addTrade adds a trade.
func (b *book) addTrade(p parts) {
	x := coupon.Trade{Seller: p.numbers[0], Buyer: p.numbers[1], Shares: p.numbers[2]}
	x.Sold = coupon.Range{Lo: p.numbers[3], Hi: p.numbers[4]}
	x.Delivered = coupon.Range{Lo: p.numbers[5], Hi: p.numbers[6]}
	refuse(api.ErrNone, !isHouse(x.Seller), !isHouse(x.Buyer))
	refuse(api.ErrRange, !isOfCoupon(coupon.Company{Trades: []coupon.Trade{x}}))
	refuse(api.ErrLimit, len(b.Company.Trades) == api.MaxCouponTrades)
	c := b.Company
	c.Trades = append(c.Trades, x)
	b.keepCompany(c)
}

// cancelTrade removes a trade.
func (b *book) cancelTrade(p parts) {
	k := p.numbers[0]
	refuse(api.ErrNone, k >= len(b.Company.Trades))
	c := b.Company
	c.Trades = lists.Others(c.Trades, 0, []int{k})
	b.keepCompany(c)
}

// addDividend adds a dividend.
func (b *book) addDividend(p parts) {
	x := coupon.Dividend{Ex: p.numbers[0], Record: p.numbers[1], Pence: p.numbers[2]}
	refuse(api.ErrRange, !isOfCoupon(coupon.Company{Dividends: []coupon.Dividend{x}}))
	refuse(api.ErrLimit, len(b.Company.Dividends) == api.MaxCouponDividends)
	b.Company.Dividends = append(b.Company.Dividends, x)
}

// addSplit adds a split.
func (b *book) addSplit(p parts) {
	x := coupon.Split{Day: p.numbers[0], Num: p.numbers[1], Den: p.numbers[2]}
	refuse(api.ErrRange, !isOfCoupon(coupon.Company{Splits: []coupon.Split{x}}))
	many := len(b.Company.Splits)
	refuse(api.ErrState, many > 0 && x.Day <= b.Company.Splits[many-1].Day)
	refuse(api.ErrLimit, many == api.MaxCouponSplits)
	c := b.Company
	c.Splits = append(c.Splits, x)
	b.keepCompany(c)
}

// closeBooks adds a range of days in which the books are closed.
func (b *book) closeBooks(p parts) {
	x := coupon.Range{Lo: p.numbers[0], Hi: p.numbers[1]}
	refuse(api.ErrRange, !isOfCoupon(coupon.Company{Closed: []coupon.Range{x}}))
	refuse(api.ErrLimit, len(b.Company.Closed) == api.MaxCouponClosed)
	c := b.Company
	c.Closed = append(c.Closed, x)
	b.keepCompany(c)
}

// keepCompany changes the company to this one, which is valid, if it has a truth.
func (b *book) keepCompany(c coupon.Company) {
	left, _ := coupon.Leave(c)
	refuse(api.ErrFail, len(left) > 0)
	b.Company = c
}

// rights returns the bounds of the rights of all houses to the dividend.
func (b *book) rights(dividend int) []coupon.Range {
	_, _, rights, _ := coupon.Bounds(b.Company, dividend)
	return rights
}
