package slip_test

import (
	"fmt"

	"contango/hand"
	"contango/slip"
)

// Example is the one of README.md.
func Example() {
	price, number := hand.Note{Readings: []hand.Reading{{Text: "45/3"}}, Check: hand.None}, hand.Note{Readings: []hand.Reading{{Text: "100"}}, Check: hand.None}
	d := slip.Day{Hand: hand.Hand{Clerks: [][]hand.Pair{nil}}, Houses: 3, Signs: [][]int{{1, 2}, {0}}, Slips: []slip.Slip{
		{House: 0, Bought: true, Sign: 0, Price: price, Number: number},
		{House: 1, Sign: 1, Price: price, Number: number},
		{House: 2, Sign: 1, Price: price, Number: number},
	}}
	possible, e := slip.Possible(d)
	makers, f := slip.Makers(d, 2)
	fmt.Println(possible, e)
	fmt.Println(makers, f)
	// Output:
	// [[0 1] [0 2]] tick 0
	// [0] tick 0
}
