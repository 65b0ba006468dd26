package hand_test

import (
	"fmt"

	"contango/hand"
)

// Example is the one of README.md.
func Example() {
	h := hand.Hand{Clerks: [][]hand.Pair{{{Written: 1, Read: 7}}}, Errors: 1}
	n := hand.Note{Readings: []hand.Reading{{Clerk: 0, Text: "78"}}, Check: hand.None}
	texts, e := hand.Written(h, n)
	fmt.Println(texts, e)
	// Output: [18 78] tick 0
}
