package margin_test

import (
	"fmt"

	"contango/margin"
)

// Example is the one of README.md.
func Example() {
	b := margin.Bank{Stocks: 1, Days: []margin.Day{
		{Prices: []margin.Range{{Lo: 5, Hi: 6}}},
	}, Loans: []margin.Loan{{Money: 40, Shares: []int{6}}, {Money: 20, Margin: 50, Shares: []int{5}}}}
	debts, calls, e := margin.Bounds(b, 0)
	sure, may, f := margin.Surely(b, 0)
	sold, g := margin.Sell(b, margin.Truth{Prices: [][]int{{5}}, Rates: []int{0}}, 1, 0)
	parts, h := margin.Parts([]int{4, 2, 2}, 7)
	fmt.Println(debts, calls, e)
	fmt.Println(sure, may, f)
	fmt.Println(sold, g)
	fmt.Println(parts, h)
	// Output:
	// [{30 36}] [{4 10}] tick 0
	// [0] [0 1] tick 0
	// [2] tick 0
	// [3 2 2] tick 0
}
