package post_test

import (
	"math/rand"
	"slices"

	"contango/api"
	"contango/post"
)

// The oracle follows the chapter's definitions minute by minute, and share by
// share, in all truths, and tries all sets of records. Samples are posts with
// limits near each other, and with short ranges of minutes.

// pick returns one of the elements.
func pick[T any](r *rand.Rand, list ...T) T { return list[r.Intn(len(list))] }

// between returns a number of the range.
func between(r *rand.Rand, low, high int) int { return low + r.Intn(high-low+1) }

// someOrder returns an order with a limit and a minute from these on.
func someOrder(r *rand.Rand, limit, minute int) post.Order {
	low := minute + r.Intn(4)
	return post.Order{
		Buy:    r.Intn(2) == 0,
		Limit:  limit + r.Intn(5),
		Number: pick(r, 1, 2, 2, 3, 4, 7, 20),
		Minute: to(low, min(low+pick(r, 0, 1, 1, 2), minute+4)),
	}
}

// somePost returns a post of at most so many orders.
func somePost(r *rand.Rand, most int) post.Post {
	limit, minute := pick(r, 1, 40, 40, 96), pick(r, 0, 0, 9, 26)
	var p post.Post
	for range between(r, 1, most) {
		p.Orders = append(p.Orders, someOrder(r, limit, minute))
	}
	return p
}

// clone returns the post in memory of its own.
func clone(p post.Post) post.Post { return at(slices.Clone(p.Orders)...) }

// someTruth returns a truth of the post.
func someTruth(r *rand.Rand, p post.Post) []int {
	var truth []int
	for _, o := range p.Orders {
		truth = append(truth, between(r, o.Minute.Lo, o.Minute.Hi))
	}
	return truth
}

// allTruths returns all truths of the post.
func allTruths(p post.Post) [][]int {
	all := [][]int{nil}
	for _, o := range p.Orders {
		var next [][]int
		for _, truth := range all {
			for minute := o.Minute.Lo; minute <= o.Minute.Hi; minute++ {
				next = append(next, append(slices.Clone(truth), minute))
			}
		}
		all = next
	}
	return all
}

// follower is a post that is followed.
type follower struct {
	p     post.Post
	left  []int
	rests []int // the orders that rest, as they came
	sales []post.Sale
}

// canTrade reports whether the limits let both orders trade.
func (f *follower) canTrade(buyer, seller int) bool {
	return f.p.Orders[buyer].Limit >= f.p.Orders[seller].Limit
}

// first returns the order that a share of this one is traded with, or -1.
func (f *follower) first(order int) int {
	buy := f.p.Orders[order].Buy
	var others []int
	for _, x := range f.rests {
		if f.p.Orders[x].Buy != buy {
			others = append(others, x)
		}
	}
	slices.SortStableFunc(others, func(x, y int) int {
		if buy {
			return f.p.Orders[x].Limit - f.p.Orders[y].Limit
		}
		return f.p.Orders[y].Limit - f.p.Orders[x].Limit
	})
	if len(others) == 0 || buy && !f.canTrade(order, others[0]) || !buy && !f.canTrade(others[0], order) {
		return -1
	}
	return others[0]
}

// trade adds a share to the last sale, or to a new one.
func (f *follower) trade(order, rests int) {
	f.left[order]--
	f.left[rests]--
	s := sold(0, order, rests, f.p.Orders[rests].Limit)
	if !f.p.Orders[order].Buy {
		s = sold(0, rests, order, f.p.Orders[rests].Limit)
	}
	last := len(f.sales) - 1
	if last < 0 || f.sales[last].Buyer != s.Buyer || f.sales[last].Seller != s.Seller {
		f.sales = append(f.sales, s)
		last++
	}
	f.sales[last].Number++
}

// come lets the order come.
func (f *follower) come(order int) {
	for f.left[order] > 0 {
		other := f.first(order)
		if other < 0 {
			f.rests = append(f.rests, order)
			return
		}
		f.trade(order, other)
		if f.left[other] == 0 {
			f.rests = slices.DeleteFunc(f.rests, func(x int) bool { return x == other })
		}
	}
}

// follow returns the post after the truth.
func follow(p post.Post, truth []int) *follower {
	f := &follower{p: p}
	for _, o := range p.Orders {
		f.left = append(f.left, o.Number)
	}
	for minute := range api.MaxPostMinute + 1 {
		for order, m := range truth {
			if m == minute {
				f.come(order)
			}
		}
	}
	return f
}

// filledOf returns what is filled of the order, and its money.
func filledOf(order int, sales []post.Sale) (fill, money int) {
	for _, s := range sales {
		if s.Buyer == order || s.Seller == order {
			fill += s.Number
			money += s.Number * s.Price
		}
	}
	return fill, money
}

// sample is a post, all its truths, and the sales of each of them.
type sample struct {
	p      post.Post
	truths [][]int
	sales  [][]post.Sale
}

// sampleOf returns the sample of the post.
func sampleOf(p post.Post) sample {
	s := sample{p: p, truths: allTruths(p)}
	for _, truth := range s.truths {
		s.sales = append(s.sales, follow(p, truth).sales)
	}
	return s
}

// samples returns so many samples, of which some have the most orders.
func samples(seed int64, many int) []sample {
	r := rand.New(rand.NewSource(seed))
	var list []sample
	for range many {
		list = append(list, sampleOf(somePost(r, pick(r, 2, 3, 4, 4, 5, api.MaxPostOrders))))
	}
	return list
}

// wider returns the range that has the number, too.
func wider(x post.Range, n int) post.Range { return to(min(x.Lo, n), max(x.Hi, n)) }

// bounds returns the bounds of what is filled of the order, and of its money.
func (s sample) bounds(order int) (fills, money post.Range) {
	for i, sales := range s.sales {
		n, m := filledOf(order, sales)
		if i == 0 {
			fills, money = to(n, n), to(m, m)
		}
		fills, money = wider(fills, n), wider(money, m)
	}
	return fills, money
}

// someRecords returns records of one truth, or of several.
func someRecords(r *rand.Rand, s sample) []post.Sale {
	var records []post.Sale
	for range between(r, 1, 4) {
		records = append(records, pick(r, s.sales...)...)
	}
	r.Shuffle(len(records), func(i, j int) { records[i], records[j] = records[j], records[i] })
	records = records[:min(len(records), r.Intn(api.MaxPostRecords+1))]
	if len(records) > 0 && r.Intn(4) == 0 {
		x := &records[r.Intn(len(records))]
		*pick(r, &x.Buyer, &x.Seller, &x.Number, &x.Price) += pick(r, -1, 1)
	}
	return records
}

// areOf reports whether each record is one of the sales, and no two are the same.
func areOf(records, sales []post.Sale) bool {
	rest := slices.Clone(sales)
	for _, x := range records {
		i := slices.Index(rest, x)
		if i < 0 {
			return false
		}
		rest = slices.Delete(rest, i, i+1)
	}
	return true
}

// explains reports whether some truth explains the records.
func (s sample) explains(records []post.Sale) bool {
	return slices.ContainsFunc(s.sales, func(sales []post.Sale) bool { return areOf(records, sales) })
}

// without returns the records with those indexes that are not in the set, and the
// list of those that are.
func without(records []post.Sale, set int) (kept []post.Sale, left []int) {
	for i, x := range records {
		if set&(1<<i) == 0 {
			kept = append(kept, x)
		} else {
			left = append(left, i)
		}
	}
	return kept, left
}

// smallest returns the smallest set of records.
func (s sample) smallest(records []post.Sale) []int {
	var best []int
	found := false
	for set := range 1 << len(records) {
		kept, left := without(records, set)
		if found && (len(left) > len(best) || len(left) == len(best) && slices.Compare(left, best) > 0) {
			continue
		}
		if s.explains(kept) {
			best, found = left, true
		}
	}
	return best
}

// sharesAt returns the number of shares at the price, and by how much both sides
// differ.
func sharesAt(p post.Post, price int) (shares, differ int) {
	bought, sold := 0, 0
	for _, o := range p.Orders {
		if o.Buy && o.Limit >= price {
			bought += o.Number
		}
		if !o.Buy && o.Limit <= price {
			sold += o.Number
		}
	}
	return min(bought, sold), max(bought-sold, sold-bought)
}

// opening returns the opening price, and its number of shares.
func opening(p post.Post) (price, shares int) {
	least := 0
	for n := 1; n <= api.MaxPostPrice; n++ {
		x, differ := sharesAt(p, n)
		if x > shares || x > 0 && x == shares && differ < least {
			price, shares, least = n, x, differ
		}
	}
	return price, shares
}
