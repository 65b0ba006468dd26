package odd

import (
	"iter"
	"slices"

	"contango/api"
	"contango/tape"
)

// work is a desk at work, with the sales that are read from its tape.
type work struct {
	Desk
	prints []tape.Print
}

// open returns the desk at work, or the error of the desk.
func open(d Desk) (work, api.Errno) {
	prints, e := tape.Read(d.Board, d.Tape)
	if e != api.OK {
		return work{}, e
	}
	if len(d.Orders) > api.MaxOddOrders {
		return work{}, api.ErrLimit
	}
	if !d.isValid() {
		return work{}, api.ErrArg
	}
	return work{Desk: d, prints: prints}, api.OK
}

// sales returns all sales of the stock, in increasing order.
func (w work) sales(stock int) iter.Seq[int] {
	return func(yield func(int) bool) {
		for sale, p := range w.prints {
			if p.Stock == stock && !yield(sale) {
				return
			}
		}
	}
}

// isTruth reports whether the truth is one of the desk.
func (w work) isTruth(t Truth) bool {
	isRight := slices.IsSorted(t.Minutes) && slices.EqualFunc(w.prints, t.Minutes, canBeMade)
	return isRight && tape.ProveTruth(w.Board, w.Tape, t.Prices) && slices.EqualFunc(w.Orders, t.Orders, Order.canCome)
}

// canBeMade reports whether the sale can have been made at this minute, as far
// as its own print says.
func canBeMade(p tape.Print, minute int) bool {
	return Range{Lo: p.Minute - p.Late.Hi, Hi: p.Minute - p.Late.Lo}.has(minute)
}

// fill returns the fill of an order that comes at this minute, in the truth.
func (w work) fill(o Order, minute int, t Truth) Fill {
	first := Fill{Sale: None}
search:
	for sale := range w.sales(o.Stock) {
		if t.Minutes[sale] > minute && w.lets(o, t.Prices[sale]) {
			first = Fill{Sale: sale, Price: w.cost(o, t.Prices[sale])}
			break search
		}
	}
	return first
}
