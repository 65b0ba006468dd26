package odd

import (
	"slices"

	"contango/api"
	"contango/lists"
)

// prices tells of each price whether a sale can have it. There is no price 0.
type prices [api.MaxTapePrice + 1]bool

// end is one of both ends of prices.
type end struct {
	of func(prices) int
}

// endOf returns the high end, or the low one.
func endOf(high bool) end {
	if high {
		return end{of: prices.highest}
	}
	return end{of: prices.lowest}
}

// every returns the prices from the first one to the last one, so far apart.
func every(first, last, apart int) prices {
	var p prices
	for price := first; price <= last; price += apart {
		p[price] = true
	}
	return p
}

// some reports whether there are any.
func (p prices) some() bool { return p != prices{} }

// lowest returns the lowest one of the prices. There must be some.
func (p prices) lowest() int { return slices.Index(p[:], true) }

// highest returns the highest one of the prices. There must be some.
func (p prices) highest() int {
	last := 0
	for price := range p {
		if p[price] {
			last = price
		}
	}
	return last
}

// with returns the prices of both.
func (p prices) with(others prices) prices {
	for price := range p {
		p[price] = p[price] || others[price]
	}
	return p
}

// keep returns those of the prices that are as asked.
func (p prices) keep(asked func(int) bool) prices {
	for price := range p {
		p[price] = p[price] && asked(price)
	}
	return p
}

// near returns those of the prices that differ from this one by at most the jump.
func (p prices) near(price, jump int) prices {
	var out prices
	low, high := max(0, price-jump), lists.Least(len(p), price+jump+1)
	copy(out[low:high], p[low:high])
	return out
}
