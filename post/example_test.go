package post_test

import (
	"fmt"

	"contango/post"
)

// Example is the one of README.md.
func Example() {
	p := post.Post{Orders: []post.Order{
		{Limit: 40, Number: 5, Minute: post.Range{Lo: 1, Hi: 3}},
		{Buy: true, Limit: 41, Number: 3, Minute: post.Range{Lo: 2, Hi: 2}},
	}}
	sales, e := post.Play(p, []int{1, 2})
	fills, money, f := post.Fills(p)
	price, shares, g := post.Open(p)
	truth, h := post.Explain(p, []post.Sale{{Buyer: 1, Seller: 0, Number: 3, Price: 41}})
	fmt.Println(sales, e)
	fmt.Println(fills, money, f)
	fmt.Println(price, shares, g)
	fmt.Println(truth, h)
	// Output:
	// [{1 0 3 40}] tick 0
	// [{3 3} {3 3}] [{120 123} {120 123}] tick 0
	// 40 3 tick 0
	// [3 2] tick 0
}
