package post

import (
	"cmp"

	"contango/api"
	"contango/lists"
)

// offer is how many shares are bought and sold at most at an opening price.
type offer struct{ price, bought, sold int }

// offer returns the offer at the price.
func (p Post) offer(price int) offer {
	x := offer{price: price}
	for _, o := range p.Orders {
		if !o.isAt(price) {
			continue
		}
		if o.Buy {
			x.bought += o.Number
		} else {
			x.sold += o.Number
		}
	}
	return x
}

// shares returns the number of shares at the price.
func (x offer) shares() int { return lists.Least(x.bought, x.sold) }

// surplus returns by how much both sides differ.
func (x offer) surplus() int { return lists.Greatest(x.bought, x.sold) - x.shares() }

// isBetter reports whether more shares change hands than at the price of the other
// one, or as many while both sides differ by less.
func (x offer) isBetter(other offer) bool {
	return cmp.Or(cmp.Compare(x.shares(), other.shares()), cmp.Compare(other.surplus(), x.surplus())) > 0
}

// opening returns the offer at the opening price.
func (p Post) opening() offer {
	var best offer
	for n := range api.MaxPostPrice {
		if x := p.offer(n + 1); x.isBetter(best) {
			best = x
		}
	}
	return best
}
