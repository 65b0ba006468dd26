package floor_test

import (
	"fmt"

	"contango/floor"
)

// Example is the one of README.md.
func Example() {
	lines := []string{
		"clerk", "pair 0 3 8", "errors 1", "sign 6", "sign 1",
		"slip 0 1 0 0 45/3 100 10 12", "slip 1 0 1 0 45/8 100 12 13",
		"sheet 0", "loan 0 0 1 1 3", "saw 0 2 2",
		"held 0 10", "trade 0 1 4 2 3 4 5", "dividend 3 4 5",
	}
	_, errors, e := floor.Play(lines)
	pairs, sure, f := floor.Matched(lines)
	houses, g := floor.Where(lines, 2)
	rights, h := floor.Rights(lines, 0)
	file, i := floor.Write(lines)
	whole, bytes := floor.Recover(file[:30])
	fmt.Println(errors[9], e)
	fmt.Println(pairs, sure, f)
	fmt.Println(houses, g)
	fmt.Println(rights, h)
	fmt.Println(len(file), i)
	fmt.Println(whole, bytes)
	// Output:
	// tick 9 tick 0
	// 1 [[0 1]] tick 0
	// [[0 1]] tick 0
	// [{21600 36000} {0 14400} {0 0} {0 0}] tick 0
	// 278 tick 0
	// [clerk] 14
}
