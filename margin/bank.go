package margin

import (
	"slices"

	"contango/api"
	"contango/lists"
)

// low returns the least number of the range.
func (r Range) low() int { return r.Lo }

// high returns the greatest number of the range.
func (r Range) high() int { return r.Hi }

// has reports whether the number is in the range.
func (r Range) has(n int) bool { return n >= r.Lo && n <= r.Hi }

// isFrom0 reports whether it is a range of numbers from 0 to the greatest one.
func (r Range) isFrom0(greatest int) bool { return r.Lo >= 0 && r.Lo <= r.Hi && r.Hi <= greatest }

// isOfPrices reports whether it is a range of prices.
func (r Range) isOfPrices() bool { return r.isFrom0(api.MaxMarginPrice) }

// isMoney reports whether it is an amount of money.
func isMoney(pence int) bool { return pence >= 0 && pence <= api.MaxMarginMoney }

// isNumber reports whether a loan can have so many shares of a stock.
func isNumber(shares int) bool { return shares >= 0 && shares <= api.MaxMarginShares }

// isFew reports whether the bank has no more of anything than there may be.
func (b Bank) isFew() bool {
	isFew := b.Stocks <= api.MaxMarginStocks && len(b.Days) <= api.MaxMarginDays
	return isFew && len(b.Loans) <= api.MaxMarginLoans
}

// isValid reports whether the bank is valid, but for how many it has of anything.
func (b Bank) isValid() bool {
	isOpen := b.Stocks > 0 && len(b.Days) > 0
	return isOpen && lists.All(b.Days, b.validDay) && lists.All(b.Loans, b.validLoan)
}

// validDay reports whether the day is valid.
func (b Bank) validDay(d Day) bool {
	isPriced := len(d.Prices) == b.Stocks && lists.All(d.Prices, Range.isOfPrices)
	return isPriced && d.Rate.isFrom0(api.MaxMarginRate)
}

// validLoan reports whether the loan is valid.
func (b Bank) validLoan(l Loan) bool {
	isLent := isMoney(l.Money) && l.Margin >= 0 && l.Margin <= api.MaxMarginHundredths
	return isLent && len(l.Shares) == b.Stocks && lists.All(l.Shares, isNumber)
}

// hasLoan reports whether there is such a loan.
func (b Bank) hasLoan(loan int) bool { return loan >= 0 && loan < len(b.Loans) }

// hasDay reports whether there is such a day.
func (b Bank) hasDay(day int) bool { return day >= 0 && day < len(b.Days) }

// hasSpot reports whether there are the loan and the day of the record.
func (b Bank) hasSpot(r Record) bool { return b.hasLoan(r.Loan) && b.hasDay(r.Day) }

// hasPrices reports whether the stocks can have these prices on the day.
func (d Day) hasPrices(list []int) bool { return slices.EqualFunc(d.Prices, list, Range.has) }

// hasRate reports whether the rate of the day can be this one.
func (d Day) hasRate(rate int) bool { return d.Rate.has(rate) }

// allows reports whether the truth is one of the bank.
func (b Bank) allows(t Truth) bool {
	isPriced := slices.EqualFunc(b.Days, t.Prices, Day.hasPrices)
	return isPriced && slices.EqualFunc(b.Days, t.Rates, Day.hasRate)
}

// isSale reports whether so many shares of each stock can be sold of the loan.
func (l Loan) isSale(list []int) bool {
	return slices.EqualFunc(l.Shares, list, func(has, sold int) bool { return sold >= 0 && sold <= has })
}
