package margin

import (
	"iter"

	"contango/api"
)

// prices are those of a day: 0 for a stock that there is not.
type prices [api.MaxMarginStocks]int

// worth returns what so many shares of each stock are worth.
func (p prices) worth(shares []int) int {
	sum := 0
	for stock, number := range shares {
		sum += number * p[stock]
	}
	return sum
}

// dearest returns the stocks that are worth something, those of greater prices
// first.
func (p prices) dearest() iter.Seq[int] {
	return func(yield func(int) bool) {
		rest := p
		for rest != (prices{}) {
			stock := greatest(rest[:])
			if !yield(stock) {
				return
			}
			rest[stock] = 0
		}
	}
}
