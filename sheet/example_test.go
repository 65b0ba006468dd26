package sheet_test

import (
	"fmt"

	"contango/sheet"
)

// Example is the one of README.md.
func Example() {
	r := sheet.Register{Houses: 2, Start: []int{0}, Entries: []sheet.Entry{
		{Kind: sheet.Loan, Sheet: 0, From: 0, To: 1, Day: sheet.Range{Lo: 1, Hi: 3}},
	}}
	holders, e := sheet.Holders(r, 0, 2)
	owed, f := sheet.Owed(r, 0, 1, 3)
	fmt.Println(holders, e)
	fmt.Println(owed, f)
	// Output:
	// [0 1] tick 0
	// {1 1} tick 0
}
