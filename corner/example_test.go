package corner_test

import (
	"fmt"

	"contango/corner"
)

// Example is the one of README.md.
func Example() {
	m := corner.Market{Exist: 30, Houses: []corner.House{
		{Held: corner.Range{Lo: 10, Hi: 18}, Sells: true, Ask: 150},
		{Held: corner.Range{Lo: 8, Hi: 8}, Sells: true, Ask: 200},
		{},
		{Held: corner.Range{Lo: 4, Hi: 12}},
	}, Contracts: []corner.Contract{{Short: 2, Long: 3, Shares: 25}}}
	shortage, e := corner.Shortage(m)
	sure, may, f := corner.Cornered(m)
	houses, g := corner.Corner(m)
	sales, cost, h := corner.Settle(m, []int{18, 8, 0, 4})
	fmt.Println(shortage, e)
	fmt.Println(sure, may, f)
	fmt.Println(houses, g)
	fmt.Println(sales, cost, h)
	// Output:
	// {-1 7} tick 0
	// false true tick 0
	// [0] tick 0
	// [{0 2 18} {1 2 7}] 4100 tick 0
}
