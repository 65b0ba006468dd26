package tape

import (
	"slices"

	"contango/api"
)

// none stands for a stock where there is none.
const none = -1

// has reports whether the number is in the range.
func (r Range) has(n int) bool { return n >= r.Lo && n <= r.Hi }

// isWithin reports whether the range is one, with both ends in the limits.
func (r Range) isWithin(limits Range) bool {
	return r.Lo <= r.Hi && limits.has(r.Lo) && limits.has(r.Hi)
}

// meets reports whether some number is in both ranges.
func (r Range) meets(other Range) bool { return r.Lo <= other.Hi && other.Lo <= r.Hi }

// only returns the range of this number alone.
func only(n int) Range { return Range{Lo: n, Hi: n} }

// allPrices returns the range of all prices.
func allPrices() Range { return Range{Lo: 1, Hi: api.MaxTapePrice} }

// allNumbers returns the range of all numbers of hundreds.
func allNumbers() Range { return Range{Lo: 1, Hi: api.MaxTapeNumber} }

// allMinutes returns the range of all minutes at which there are prints.
func allMinutes() Range { return Range{Lo: 0, Hi: api.MaxTapeMinute} }

// nameCount tells how many stocks have each name.
type nameCount map[string]int

// countNames counts the names of the stocks.
func countNames(stocks []Stock) nameCount {
	count := nameCount{}
	for _, s := range stocks {
		count[s.Name]++
	}
	return count
}

// valid reports whether the stock is as described, and no other one has its name.
func (c nameCount) valid(s Stock) bool {
	return isName(s.Name) && s.Start.isWithin(allPrices()) && c[s.Name] == 1
}

// hasStock reports whether there is such a stock.
func (b Board) hasStock(stock int) bool { return stock >= 0 && stock < len(b.Stocks) }

// find returns the stock with this name, or none.
func (b Board) find(name string) int {
	return slices.IndexFunc(b.Stocks, func(s Stock) bool { return s.Name == name })
}

// validSlip reports whether the slip can be one of a sale of the board.
func (b Board) validSlip(s Slip) bool {
	return b.hasStock(s.Stock) && allPrices().has(s.Price) && allNumbers().has(s.Number) && s.Minutes.isWithin(allMinutes())
}

// validSale reports whether the sale by itself can be written.
func (b Board) validSale(s Sale) bool {
	return b.hasStock(s.Stock) && allPrices().has(s.Price) && allNumbers().has(s.Number) && allMinutes().has(s.Minute)
}
