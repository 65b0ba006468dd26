package post

import (
	"contango/api"
	"contango/lists"
)

// amounts are a number for each order.
type amounts [api.MaxPostOrders]int

// course is what happens at a post in a truth: the orders that have come, what is
// left of all orders, and the sales.
type course struct {
	Post
	came  []int
	left  amounts
	sales []Sale
}

// side is one of both sides of a sale.
type side struct{ order func(Sale) int }

// buyer returns the order that buys.
func (s Sale) buyer() int { return s.Buyer }

// seller returns the order that sells.
func (s Sale) seller() int { return s.Seller }

// shares returns how many shares are sold.
func (s Sale) shares() int { return s.Number }

// money returns what all the shares are sold for.
func (s Sale) money() int { return s.Number * s.Price }

// sides returns both sides of a sale.
func sides() [2]side { return [2]side{{order: Sale.buyer}, {order: Sale.seller}} }

// run returns the course of the post in the truth.
func (p Post) run(truth []int) *course {
	c := &course{Post: p}
	for order, o := range p.Orders {
		c.left[order] = o.Number
	}
	for _, a := range arrivals(truth) {
		c.come(a.order)
	}
	return c
}

// come lets the order trade with those that rest, until there is no more sale.
func (c *course) come(order int) {
	for {
		before := c.left
		c.meet(order)
		if c.left == before {
			break
		}
	}
	c.came = append(c.came, order)
}

// meet lets the order trade with the best one that rests, if there is one.
func (c *course) meet(order int) {
	best, found := 0, false
	for _, resting := range c.came {
		// Of several the one that came first counts, so a later one has to be better.
		if c.canTrade(order, resting) && (!found || c.Orders[resting].isBetter(c.Orders[best])) {
			best, found = resting, true
		}
	}
	if found {
		c.happen(c.sale(order, best))
	}
}

// canTrade reports whether something is left of both orders, and the one that comes
// can trade with the one that rests.
func (c *course) canTrade(order, resting int) bool {
	isLeft := c.left[order] > 0 && c.left[resting] > 0
	return isLeft && c.Orders[order].canTrade(c.Orders[resting])
}

// sale returns the sale of the order that comes and the one that rests.
func (c *course) sale(order, resting int) Sale {
	s := Sale{Buyer: order, Seller: resting, Number: lists.Least(c.left[order], c.left[resting]), Price: c.Orders[resting].Limit}
	if c.Orders[resting].Buy {
		s.Buyer, s.Seller = s.Seller, s.Buyer
	}
	return s
}

// happen adds the sale.
func (c *course) happen(s Sale) {
	c.sales = append(c.sales, s)
	for _, x := range sides() {
		c.left[x.order(s)] -= s.Number
	}
}

// sums returns for each order the sum of what is asked of its sales.
func (c *course) sums(asked func(Sale) int) amounts {
	var sums amounts
	for _, s := range c.sales {
		for _, x := range sides() {
			sums[x.order(s)] += asked(s)
		}
	}
	return sums
}
