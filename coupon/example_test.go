package coupon_test

import (
	"fmt"

	"contango/coupon"
)

// Example is the one of README.md.
func Example() {
	c := coupon.Company{Houses: 2, Held: []int{10, 0}, Trades: []coupon.Trade{
		{Seller: 0, Buyer: 1, Shares: 4, Sold: coupon.Range{Lo: 2, Hi: 2}, Delivered: coupon.Range{Lo: 4, Hi: 5}},
	}, Dividends: []coupon.Dividend{{Ex: 3, Record: 4, Pence: 5}}}
	late := coupon.Truth{Sold: []int{2}, Delivered: []int{5}}
	claims, e := coupon.Claims(c, late, 0)
	paid, due, rights, f := coupon.Bounds(c, 0)
	fmt.Println(claims, e)
	fmt.Println(paid, due, rights, f)
	// Output:
	// [14400] tick 0
	// [{21600 36000} {0 14400}] [{0 14400}] [{21600 21600} {14400 14400}] tick 0
}
