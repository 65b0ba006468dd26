package odd

import (
	"slices"

	"contango/api"
	"contango/tape"
)

// spot is a sale of the order's stock, with whether the order waits for it: it
// came before, and no sale before has filled it.
type spot struct {
	sale  int
	waits bool
}

// course is what can happen to an order: the prices that the sales of its stock
// can have at each spot.
type course struct {
	told
	Order
	index int
	at    map[spot]prices
}

// finish returns the spot after all sales, at which the order still waits.
func (k told) finish() spot { return spot{sale: len(k.prints), waits: true} }

// follow returns the course of the order. Before all sales there is any price,
// as the bounds of the first one say from where it jumps; after them there are
// the prices of the last one.
func (k told) follow(order int) course {
	c := course{told: k, Order: k.Orders[order], index: order, at: map[spot]prices{}}
	last := None
	c.at[spot{sale: last}] = every(1, api.MaxTapePrice, 1)
	// waiting returns the prices of the last sale with which the order can wait for the next one.
	waiting := func(next int) prices {
		before := c.passing(last)
		if _, comes := k.moment(c.Order, last, next); comes {
			before = before.with(c.at[spot{sale: last}])
		}
		return before
	}
	for sale := range k.sales(c.Stock) {
		c.at[spot{sale: sale}] = k.possible(sale)
		c.at[spot{sale: sale, waits: true}] = k.after(sale, waiting(sale))
		last = sale
	}
	c.at[k.finish()] = waiting(k.finish().sale)
	return c
}

// isLet reports whether a sale at this price lets the order trade.
func (c course) isLet(price int) bool { return c.lets(c.Order, price) }

// filling returns the prices at which the sale fills the order.
func (c course) filling(sale int) prices {
	return c.at[spot{sale: sale, waits: true}].keep(c.isLet)
}

// passing returns the prices at which the sale leaves the order waiting.
func (c course) passing(sale int) prices {
	return c.at[spot{sale: sale, waits: true}].keep(func(price int) bool { return !c.isLet(price) })
}

// fillers returns the sales by which the order can be filled.
func (c course) fillers() []int {
	var list []int
	for sale := range c.sales(c.Stock) {
		if c.filling(sale).some() {
			list = append(list, sale)
		}
	}
	return list
}

// fills returns the prices at which some sale fills the order.
func (c course) fills() prices {
	var all prices
	for _, sale := range c.fillers() {
		all = all.with(c.filling(sale))
	}
	return all
}

// bounds returns the bounds of the price of the order.
func (c course) bounds() Range {
	p := c.fills()
	if !p.some() {
		return Range{}
	}
	return Range{Lo: c.cost(c.Order, endOf(false).of(p)), Hi: c.cost(c.Order, endOf(true).of(p))}
}

// verdict returns in which truths the order is filled.
func (c course) verdict() int {
	if !c.fills().some() {
		return Never
	}
	if c.at[c.finish()].some() {
		return Open
	}
	return Always
}

// filler returns the first sale that can fill the order at this price. There
// must be one.
func (c course) filler(price int) int {
	list := c.fillers()
	return list[slices.IndexFunc(list, func(sale int) bool { return c.filling(sale)[price] })]
}

// truth returns a truth in which the order is filled by a sale at this price.
// There must be one.
func (c course) truth(price int) Truth {
	// The prices of the other stocks are those of any truth of the tape.
	list, _ := tape.Show(c.Board, c.Tape, 0, false)
	by := c.filler(price)
	list[by] = price
	c.goOn(list, by)
	last := c.goBack(list, by)
	t := Truth{Prices: list, Minutes: c.minutes(last)}
	for _, o := range c.Orders {
		t.Orders = append(t.Orders, o.Minute.Lo)
	}
	t.Orders[c.index], _ = c.moment(c.Order, last, by)
	return t
}

// goOn writes prices of the sales of the stock after the one that fills the order.
func (c course) goOn(list []int, by int) {
	price := list[by]
	for sale := range c.sales(c.Stock) {
		if sale > by {
			price = c.possible(sale).near(price, c.Board.Jump).lowest()
			list[sale] = price
		}
	}
}

// goBack writes prices of the sales of the stock before the one that fills the
// order: those that do not let it trade, where there are some near that of the
// next sale. It returns the last sale where there are none, and which the order
// must not come before.
func (c course) goBack(list []int, by int) int {
	var earlier []int
	for sale := range c.sales(c.Stock) {
		if sale < by {
			earlier = append(earlier, sale)
		}
	}
	last, price := None, list[by]
	for _, sale := range slices.Backward(earlier) {
		before := c.passing(sale).near(price, c.Board.Jump)
		if !before.some() {
			last = max(last, sale)
			before = c.possible(sale).near(price, c.Board.Jump)
		}
		price = before.lowest()
		list[sale] = price
	}
	return last
}
