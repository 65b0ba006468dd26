package short_test

import (
	"fmt"

	"contango/sheet"
	"contango/short"
)

// Example is the one of README.md.
func Example() {
	l := short.Ledger{
		Register: sheet.Register{Houses: 3, Start: []int{2}, Entries: []sheet.Entry{
			{Kind: sheet.Pass, Sheet: 0, From: 2, To: 1, Day: sheet.Range{Lo: 3, Hi: 5}},
		}},
		Day:   4,
		Lends: []bool{false, false, true},
		Dues:  []short.Due{{From: 0, To: 1, Number: 1}},
	}
	hands, e := short.Hands(l)
	deliveries, bought, f := short.Best(l, []int{0, 0, 1})
	bounds, g := short.BuyIns(l)
	houses, h := short.Enough(l)
	fmt.Println(hands, e)
	fmt.Println(deliveries, bought, f)
	fmt.Println(bounds, g)
	fmt.Println(houses, h)
	// Output:
	// [[0 0 1] [0 1 0]] tick 0
	// [1] 0 tick 0
	// {0 1} tick 0
	// [1] tick 0
}
