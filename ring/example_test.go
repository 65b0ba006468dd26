package ring_test

import (
	"fmt"

	"contango/ring"
)

// Example is the one of README.md.
func Example() {
	b := ring.Book{Houses: 3, Contracts: []ring.Contract{
		{From: 0, To: 1, Number: 30, Price: 50},
		{From: 1, To: 2, Number: 20, Price: 52},
		{From: 2, To: 0, Number: 25, Price: 55},
	}}
	rings, e := ring.Rings(b)
	set, deliveries, f := ring.Fewest(b)
	fmt.Println(rings, e)
	fmt.Println(set, deliveries, f)
	// Output:
	// [{[0 1 2] 20}] tick 0
	// [0 2] [10 0 5] tick 0
}
