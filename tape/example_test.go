package tape_test

import (
	"fmt"

	"contango/tape"
)

// Example is the one of README.md.
func Example() {
	b := tape.Board{Stocks: []tape.Stock{{Name: "AB", Start: tape.Range{Lo: 300, Hi: 310}}}, Jump: 10, Small: 4}
	prices, e := tape.Prices(b, "@5 AB 3s 8.2 8.5")
	fmt.Println(prices, e)
	// Output: [{306 306} {309 309}] tick 0
}
