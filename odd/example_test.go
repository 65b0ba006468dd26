package odd_test

import (
	"fmt"

	"contango/odd"
	"contango/tape"
)

// Example is the one of README.md.
func Example() {
	b := tape.Board{Stocks: []tape.Stock{{Name: "AB", Start: tape.Range{Lo: 300, Hi: 310}}}, Jump: 10, Small: 4}
	d := odd.Desk{Board: b, Tape: "@5 AB 8.2 @7 8.5", Fee: 1, Orders: []odd.Order{{Buy: true, Stock: 0, Number: 10, Minute: odd.Range{Lo: 4, Hi: 5}}}}
	prices, e := odd.Bounds(d)
	sales, f := odd.Sales(d, 0)
	fmt.Println(prices, e)
	fmt.Println(sales, f)
	// Output:
	// [{307 310}] tick 0
	// [0 1] tick 0
}
