package tape

import (
	"slices"

	"contango/api"
	"contango/lists"
)

// prices tells of each price whether a sale can have it. There is no price 0.
type prices [api.MaxTapePrice + 1]bool

// spot is a sale with a price.
type spot struct{ sale, price int }

// within returns the prices of the range.
func within(r Range) prices {
	var p prices
	for price := range len(p) {
		p[price] = r.has(price)
	}
	return p
}

// has reports whether the price is one of these.
func (p prices) has(price int) bool { return p[price] }

// some reports whether there are any.
func (p prices) some() bool { return p != prices{} }

// keep returns those of the prices that are as asked.
func (p prices) keep(asked func(int) bool) prices {
	for price := range p {
		p[price] = p[price] && asked(price)
	}
	return p
}

// near returns the prices that differ from some of these by at most the jump.
func (p prices) near(jump int) prices {
	var out prices
	below := -jump - 1
	for price := range p {
		if p[price] {
			below = price
		}
		out[price] = price-below <= jump
	}
	above := len(p) + jump
	for price := len(p) - 1; price > 0; price-- {
		if p[price] {
			above = price
		}
		out[price] = out[price] || above-price <= jump
	}
	return out
}

// bounds returns the range from the first one to the last one.
func (p prices) bounds() Range {
	r := only(slices.Index(p[:], true))
	for price := range p {
		if p[price] {
			r.Hi = price
		}
	}
	return r
}

// allows reports whether the price can be printed like this.
func (p Print) allows(price int) bool {
	if p.Full {
		return price == p.Figures
	}
	return price%turn == p.Figures
}

// possible returns for each sale the prices that it has in all truths, when
// what is printed of the prices of these sales is left out.
func (r record) possible(left []int) []prices {
	list := make([]prices, len(r.prints))
	var before, after [api.MaxTapeStocks]prices
	for stock, s := range r.board.Stocks {
		before[stock] = within(s.Start)
		after[stock] = within(allPrices())
	}
	for i, p := range r.prints {
		list[i] = before[p.Stock].near(r.board.Jump)
		if !slices.Contains(left, i) {
			list[i] = list[i].keep(p.allows)
		}
		before[p.Stock] = list[i]
	}
	for i, p := range slices.Backward(r.prints) {
		list[i] = list[i].keep(after[p.Stock].near(r.board.Jump).has)
		after[p.Stock] = list[i]
	}
	return list
}

// hasTruth reports whether there is a truth, when what is printed of the prices
// of these sales is left out.
func (r record) hasTruth(left []int) bool { return lists.All(r.possible(left), prices.some) }

// spots returns each sale with each price that it has in some truth.
func (r record) spots() map[spot]bool {
	spots := map[spot]bool{}
	for sale, p := range r.possible(nil) {
		for price := range p {
			if p[price] {
				spots[spot{sale: sale, price: price}] = true
			}
		}
	}
	return spots
}

// at returns the tape with the sale printed at this price as a full one.
func (r record) at(s spot) record {
	r.prints = slices.Clone(r.prints)
	r.prints[s.sale].Full = true
	r.prints[s.sale].Figures = s.price
	return r
}

// firstTruth returns the truth that is the smaller one at the first sale at
// which it differs from another one. There must be one. Of two truths the
// smaller prices of all sales are a truth again, so the least ones are.
func (r record) firstTruth() []int {
	var list []int
	for _, p := range r.possible(nil) {
		list = append(list, p.bounds().Lo)
	}
	return list
}

// isTruth reports whether the prices are a truth.
func (r record) isTruth(list []int) bool {
	if len(list) != len(r.prints) || !lists.All(list, allPrices().has) {
		return false
	}
	last := r.board.starts()
	for i, p := range r.prints {
		if !p.allows(list[i]) || !r.board.jumps(last[p.Stock], list[i]) {
			return false
		}
		last[p.Stock] = only(list[i])
	}
	return true
}

// starts returns for each stock the range from which its first sale jumps.
func (b Board) starts() [api.MaxTapeStocks]Range {
	var list [api.MaxTapeStocks]Range
	for stock, s := range b.Stocks {
		list[stock] = s.Start
	}
	return list
}

// jumps reports whether the price differs from one of the range by at most Jump.
func (b Board) jumps(from Range, price int) bool {
	return price >= from.Lo-b.Jump && price <= from.Hi+b.Jump
}
