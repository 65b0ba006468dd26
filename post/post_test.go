package post_test

import (
	"slices"
	"testing"

	"contango/api"
	"contango/post"
)

// farthest and lowest are the ends of all ints.
const (
	farthest = 1<<63 - 1
	lowest   = -1 << 63
)

// to returns the range with these ends.
func to(low, high int) post.Range { return post.Range{Lo: low, Hi: high} }

// list returns the numbers as a list.
func list(numbers ...int) []int { return numbers }

// spans returns the ranges with these ends.
func spans(ends ...int) []post.Range {
	var list []post.Range
	for i := 0; i < len(ends); i += 2 {
		list = append(list, to(ends[i], ends[i+1]))
	}
	return list
}

// buys returns an order that buys.
func buys(number, limit, low, high int) post.Order {
	return post.Order{Buy: true, Limit: limit, Number: number, Minute: to(low, high)}
}

// sells returns an order that sells.
func sells(number, limit, low, high int) post.Order {
	return post.Order{Limit: limit, Number: number, Minute: to(low, high)}
}

// at returns a post with these orders.
func at(orders ...post.Order) post.Post { return post.Post{Orders: orders} }

// sold returns a sale.
func sold(number, buyer, seller, price int) post.Sale {
	return post.Sale{Buyer: buyer, Seller: seller, Number: number, Price: price}
}

// said returns the sales as a list.
func said(sales ...post.Sale) []post.Sale { return sales }

// theExample is the post of the chapter's examples.
func theExample() post.Post {
	return at(sells(5, 40, 1, 3), sells(4, 38, 2, 2), buys(6, 41, 2, 4), buys(3, 37, 0, 0))
}

// theTruth is one of the example, in which the order 2 comes last.
func theTruth() []int { return list(1, 2, 3, 0) }

// early is the other one of the chapter, in which the order 2 rests when 0 comes.
func early() []int { return list(3, 2, 2, 0) }

// theSales are those of the first truth.
func theSales() []post.Sale { return said(sold(4, 2, 1, 38), sold(2, 2, 0, 40)) }

// earlySales are those of the other one.
func earlySales() []post.Sale { return said(sold(4, 2, 1, 38), sold(2, 2, 0, 41)) }

// turn has two orders that sell, and one that buys, which comes before them,
// between them or after them.
func turn() post.Post { return at(sells(3, 50, 1, 3), sells(3, 49, 2, 2), buys(4, 52, 0, 4)) }

// whenever returns the orders with all minutes.
func whenever(orders ...post.Order) post.Post {
	for i := range orders {
		orders[i].Minute = to(0, 30)
	}
	return at(orders...)
}

func TestP10_1CheckPost(t *testing.T) {
	for _, x := range append(validChanges(), wrongChanges()...) {
		p := theExample()
		x.change(&p)
		if e := post.CheckPost(p); e != x.e {
			t.Errorf("CheckPost, %s: %v; want %v", x.name, e, x.e)
		}
	}
}

func TestP10_1Play(t *testing.T) {
	for _, x := range []struct {
		name  string
		p     post.Post
		truth []int
		want  []post.Sale
	}{
		{"the example", theExample(), theTruth(), theSales()},
		{"the other one", theExample(), early(), earlySales()},
		{"all at one minute", theExample(), list(2, 2, 2, 0), theSales()},
		{"both last at one minute", theExample(), list(3, 2, 3, 0), theSales()},
		{"one order", whenever(buys(3, 40, 0, 0)), list(7), nil},
		{"DOC.md's", whenever(sells(3, 40, 0, 0), buys(3, 41, 0, 0)), list(1, 2), said(sold(3, 1, 0, 40))},
		{"one side that buys", whenever(buys(3, 40, 0, 0), buys(3, 30, 0, 0)), list(1, 2), nil},
		{"one side that sells", whenever(sells(3, 40, 0, 0), sells(3, 30, 0, 0)), list(1, 2), nil},
		{"the same limit, the one that sells rests", whenever(sells(3, 40, 0, 0), buys(3, 40, 0, 0)), list(1, 1), said(sold(3, 1, 0, 40))},
		{"the same limit, the one that buys rests", whenever(sells(3, 40, 0, 0), buys(3, 40, 0, 0)), list(2, 1), said(sold(3, 1, 0, 40))},
		{"limits that do not let them trade", whenever(sells(3, 41, 0, 0), buys(3, 40, 0, 0)), list(2, 1), nil},
		{"the limit of the one that rests sells", whenever(sells(3, 1, 0, 0), buys(3, 100, 0, 0)), list(0, 30), said(sold(3, 1, 0, 1))},
		{"the limit of the one that rests buys", whenever(sells(3, 1, 0, 0), buys(3, 100, 0, 0)), list(30, 0), said(sold(3, 1, 0, 100))},
		{"what is left of the one that comes", whenever(sells(3, 40, 0, 0), buys(20, 41, 0, 0), sells(5, 39, 0, 0)), list(0, 1, 2), said(sold(3, 1, 0, 40), sold(5, 1, 2, 41))},
		{"what is left of the one that rests", whenever(sells(20, 40, 0, 0), buys(3, 41, 0, 0), buys(5, 42, 0, 0)), list(0, 1, 2), said(sold(3, 1, 0, 40), sold(5, 2, 0, 40))},
		{"nothing is left of the one that comes", whenever(sells(3, 40, 0, 0), buys(3, 41, 0, 0), sells(5, 39, 0, 0)), list(0, 1, 2), said(sold(3, 1, 0, 40))},
		{"nothing is left of the one that rests", whenever(sells(3, 40, 0, 0), buys(3, 41, 0, 0), buys(5, 42, 0, 0)), list(0, 1, 2), said(sold(3, 1, 0, 40))},
		{"the cheapest one first", whenever(sells(2, 41, 0, 0), sells(2, 39, 0, 0), sells(2, 40, 0, 0), buys(5, 41, 0, 0)), list(0, 1, 2, 3), said(sold(2, 3, 1, 39), sold(2, 3, 2, 40), sold(1, 3, 0, 41))},
		{"the dearest one first", whenever(buys(2, 39, 0, 0), buys(2, 41, 0, 0), buys(2, 40, 0, 0), sells(5, 39, 0, 0)), list(0, 1, 2, 3), said(sold(2, 1, 3, 41), sold(2, 2, 3, 40), sold(1, 0, 3, 39))},
		{"until the limit", whenever(sells(2, 41, 0, 0), sells(2, 39, 0, 0), sells(2, 40, 0, 0), buys(5, 40, 0, 0)), list(0, 1, 2, 3), said(sold(2, 3, 1, 39), sold(2, 3, 2, 40))},
		{"the one that came first", whenever(sells(2, 40, 0, 0), sells(2, 40, 0, 0), sells(2, 40, 0, 0), buys(5, 40, 0, 0)), list(3, 1, 2, 4), said(sold(2, 3, 1, 40), sold(2, 3, 2, 40), sold(1, 3, 0, 40))},
		{"the one with the smaller number of those that came at one minute", whenever(sells(2, 40, 0, 0), sells(2, 40, 0, 0), buys(3, 40, 0, 0)), list(3, 3, 4), said(sold(2, 2, 0, 40), sold(1, 2, 1, 40))},
		{"by a better limit before one that came first", whenever(buys(2, 40, 0, 0), buys(2, 41, 0, 0), sells(2, 40, 0, 0)), list(1, 2, 3), said(sold(2, 1, 2, 41))},
		{"what rests keeps its place", whenever(sells(5, 40, 0, 0), sells(5, 40, 0, 0), buys(3, 40, 0, 0), buys(4, 40, 0, 0)), list(0, 1, 2, 3), said(sold(3, 2, 0, 40), sold(2, 3, 0, 40), sold(2, 3, 1, 40))},
		{"by minutes, not by numbers", whenever(buys(4, 52, 0, 0), sells(3, 50, 0, 0), sells(3, 49, 0, 0)), list(2, 3, 1), said(sold(3, 0, 2, 49), sold(1, 0, 1, 52))},
		{"most of everything", whenever(buys(20, 100, 0, 0), buys(20, 100, 0, 0), buys(20, 100, 0, 0), sells(20, 1, 0, 0), sells(20, 1, 0, 0), sells(20, 1, 0, 0)), list(30, 30, 30, 30, 30, 30), said(sold(20, 0, 3, 100), sold(20, 1, 4, 100), sold(20, 2, 5, 100))},
		{"as many sales as there can be", whenever(sells(1, 10, 0, 0), sells(2, 11, 0, 0), sells(3, 12, 0, 0), sells(4, 13, 0, 0), sells(5, 14, 0, 0), buys(20, 14, 0, 0)), list(0, 0, 0, 0, 0, 0), said(sold(1, 5, 0, 10), sold(2, 5, 1, 11), sold(3, 5, 2, 12), sold(4, 5, 3, 13), sold(5, 5, 4, 14))},
	} {
		sales, e := post.Play(x.p, x.truth)
		if !slices.Equal(sales, x.want) || e != api.OK {
			t.Errorf("Play, %s: %v, %v; want %v", x.name, sales, e, x.want)
		}
	}
}

// asked is a post, and what is due of it.
type asked struct {
	name         string
	p            post.Post
	fills, money []post.Range
	sure         []int
}

func allAsked() []asked {
	return []asked{
		{"the example", theExample(), spans(2, 2, 4, 4, 6, 6, 0, 0), spans(80, 82, 152, 152, 232, 234, 0, 0), list(1, 2)},
		{"an order that comes before, between or after", turn(), spans(1, 3, 1, 3, 4, 4), spans(50, 156, 52, 156, 197, 208), list(2)},
		{"one order", whenever(buys(3, 40, 0, 0)), spans(0, 0), spans(0, 0), nil},
		{"limits that do not let them trade", whenever(buys(3, 40, 0, 0), sells(3, 41, 0, 0)), spans(0, 0, 0, 0), spans(0, 0, 0, 0), nil},
		{"filled whole, at either limit", whenever(buys(3, 41, 0, 0), sells(3, 40, 0, 0)), spans(3, 3, 3, 3), spans(120, 123, 120, 123), list(0, 1)},
		{"filled in part", whenever(buys(5, 41, 0, 0), sells(3, 40, 0, 0)), spans(3, 3, 3, 3), spans(120, 123, 120, 123), list(1)},
		{"at a known minute", at(buys(3, 41, 2, 2), sells(3, 40, 2, 2)), spans(3, 3, 3, 3), spans(123, 123, 123, 123), list(0, 1)},
		{"perhaps before the other one", at(sells(2, 40, 4, 6), sells(2, 40, 5, 5), buys(2, 40, 9, 9)), spans(0, 2, 0, 2, 2, 2), spans(0, 80, 0, 80, 80, 80), list(2)},
		{"surely before the other one of the same minute", at(sells(2, 40, 4, 5), sells(2, 40, 5, 5), buys(2, 40, 9, 9)), spans(2, 2, 0, 0, 2, 2), spans(80, 80, 0, 0, 80, 80), list(0, 2)},
		{"surely after the other one", at(sells(2, 40, 6, 8), sells(2, 40, 5, 5), buys(2, 40, 9, 9)), spans(0, 0, 2, 2, 2, 2), spans(0, 0, 80, 80, 80, 80), list(1, 2)},
		{"all in one order only", at(sells(2, 40, 4, 5), sells(2, 40, 5, 6), buys(2, 40, 6, 6), buys(2, 41, 6, 6)), spans(2, 2, 2, 2, 2, 2, 2, 2), spans(80, 80, 80, 80, 80, 80, 80, 80), list(0, 1, 2, 3)},
		{"one number later, at the same minute", at(sells(2, 40, 7, 7), buys(2, 41, 7, 7), buys(2, 42, 6, 7)), spans(2, 2, 0, 2, 0, 2), spans(80, 84, 0, 80, 0, 84), list(0)},
		{"the last minute", at(buys(2, 41, 30, 30), sells(2, 40, 29, 30)), spans(2, 2, 2, 2), spans(80, 82, 80, 82), list(0, 1)},
		{"at the last minute after all others, or before them", at(buys(2, 41, 30, 30), sells(2, 40, 30, 30), buys(2, 42, 0, 30)), spans(0, 2, 2, 2, 0, 2), spans(0, 82, 82, 84, 0, 84), list(1)},
	}
}

func TestP10_2Fills(t *testing.T) {
	for _, x := range allAsked() {
		fills, money, e := post.Fills(x.p)
		if !slices.Equal(fills, x.fills) || !slices.Equal(money, x.money) || e != api.OK {
			t.Errorf("Fills, %s: %v, %v, %v; want %v, %v", x.name, fills, money, e, x.fills, x.money)
		}
	}
}

func TestP10_2Surely(t *testing.T) {
	for _, x := range allAsked() {
		if sure, e := post.Surely(x.p); !slices.Equal(sure, x.sure) || e != api.OK {
			t.Errorf("Surely, %s: %v, %v; want %v", x.name, sure, e, x.sure)
		}
	}
}

func TestP10_3Open(t *testing.T) {
	for _, x := range []struct {
		name          string
		p             post.Post
		price, shares int
		e             api.Errno
	}{
		{"the example", theExample(), 40, 6, api.OK},
		{"the smallest of several", whenever(buys(5, 10, 0, 0), sells(5, 8, 0, 0)), 8, 5, api.OK},
		{"one price only", whenever(buys(5, 10, 0, 0), sells(5, 10, 0, 0)), 10, 5, api.OK},
		{"no price", whenever(buys(5, 10, 0, 0), sells(5, 11, 0, 0)), 0, 0, api.ErrNone},
		{"nothing is sold", whenever(buys(5, 10, 0, 0), buys(5, 11, 0, 0)), 0, 0, api.ErrNone},
		{"nothing is bought", whenever(sells(5, 10, 0, 0)), 0, 0, api.ErrNone},
		{"most shares, not the least difference", whenever(buys(2, 20, 0, 0), sells(2, 10, 0, 0), sells(9, 15, 0, 0), buys(1, 15, 0, 0)), 15, 3, api.OK},
		{"the least difference: more is sold at a greater price", whenever(buys(4, 10, 0, 0), sells(4, 5, 0, 0), sells(3, 7, 0, 0)), 5, 4, api.OK},
		{"the least difference: more is bought at a smaller price", whenever(buys(4, 10, 0, 0), buys(9, 7, 0, 0), sells(4, 5, 0, 0)), 8, 4, api.OK},
		{"the least difference, on either side", whenever(buys(4, 10, 0, 0), buys(2, 7, 0, 0), sells(4, 5, 0, 0), sells(1, 8, 0, 0)), 8, 4, api.OK},
		{"the same difference, on either side", whenever(buys(4, 10, 0, 0), buys(2, 7, 0, 0), sells(4, 5, 0, 0), sells(2, 8, 0, 0)), 5, 4, api.OK},
		{"the same difference in between", whenever(buys(4, 10, 0, 0), buys(2, 6, 0, 0), sells(4, 5, 0, 0), sells(2, 8, 0, 0)), 7, 4, api.OK},
		{"the least price", whenever(buys(5, 1, 0, 0), sells(3, 1, 0, 0)), 1, 3, api.OK},
		{"the greatest price", whenever(buys(3, 100, 0, 0), sells(5, 100, 0, 0)), 100, 3, api.OK},
		{"from the least one on", whenever(buys(20, 100, 0, 0), sells(20, 1, 0, 0)), 1, 20, api.OK},
		{"whenever they come", at(buys(3, 9, 1, 1), sells(2, 9, 30, 30), buys(4, 8, 0, 0), sells(9, 8, 9, 9)), 8, 7, api.OK},
	} {
		if price, shares, e := post.Open(x.p); price != x.price || shares != x.shares || e != x.e {
			t.Errorf("Open, %s: %d, %d, %v; want %d, %d, %v", x.name, price, shares, e, x.price, x.shares, x.e)
		}
	}
}

// told are records of a post, and the smallest set, which is empty if some truth
// explains them.
type told struct {
	name    string
	p       post.Post
	records []post.Sale
	left    []int
}

func allTold() []told {
	first, dear, cheap := sold(4, 2, 1, 38), sold(2, 2, 0, 41), sold(2, 2, 0, 40)
	return []told{
		{"no records", theExample(), nil, nil},
		{"one", theExample(), said(dear), nil},
		{"all of a truth", theExample(), said(first, dear), nil},
		{"in another order", theExample(), said(cheap, first), nil},
		{"two that no truth has together", theExample(), said(dear, cheap), list(0)},
		{"the other one of them is left", theExample(), said(cheap, dear, first), list(0)},
		{"twice the same", theExample(), said(first, first), list(0)},
		{"twice, and another one", theExample(), said(cheap, first, first), list(1)},
		{"many", theExample(), said(first, dear, first, cheap, dear, dear), list(0, 1, 3, 4)},
		{"wrong ones between", theExample(), said(first, sold(1, 2, 1, 38), cheap, sold(4, 2, 1, 37)), list(1, 3)},
		{"another number", theExample(), said(sold(1, 2, 0, 40)), list(0)},
		{"another price", theExample(), said(sold(2, 2, 0, 39)), list(0)},
		{"another order that buys", theExample(), said(sold(2, 3, 0, 40)), list(0)},
		{"another order that sells", theExample(), said(sold(2, 2, 1, 40)), list(0)},
		{"the other way round", theExample(), said(sold(2, 0, 2, 40)), list(0)},
		{"orders that there are not", theExample(), said(sold(2, -1, 4, 40), cheap), list(0)},
		{"orders far away", theExample(), said(cheap, sold(farthest, lowest, farthest, lowest)), list(1)},
		{"nothing", theExample(), said(sold(0, 0, 0, 0)), list(0)},
		{"all are wrong", theExample(), slices.Repeat(said(sold(0, 0, 0, 0)), 6), list(0, 1, 2, 3, 4, 5)},
		{"before both", turn(), said(sold(3, 2, 1, 52), sold(1, 2, 0, 52)), nil},
		{"between them", turn(), said(sold(3, 2, 0, 50), sold(1, 2, 1, 52)), nil},
		{"after both", turn(), said(sold(3, 2, 1, 49), sold(1, 2, 0, 50)), nil},
		{"as one shares are in each", turn(), said(sold(3, 2, 1, 49), sold(3, 2, 0, 50)), list(0)},
		{"more of them in one", turn(), said(sold(1, 2, 1, 52), sold(3, 2, 1, 49), sold(1, 2, 0, 50)), list(0)},
		{"the smaller index counts, not the greater", turn(), said(sold(3, 2, 1, 49), sold(1, 2, 0, 50), sold(3, 2, 0, 50), sold(1, 2, 1, 52)), list(0, 1)},
		{"none of no sales", whenever(buys(3, 40, 0, 0)), said(sold(3, 0, 0, 40)), list(0)},
	}
}

func TestP10_4Explain(t *testing.T) {
	for _, x := range allTold() {
		want := api.OK
		if len(x.left) > 0 {
			want = api.ErrFalse
		}
		truth, e := post.Explain(x.p, x.records)
		if e != want || e != api.OK && truth != nil || post.ProveTruth(x.p, truth, x.records) != (e == api.OK) {
			t.Errorf("Explain, %s: %v, %v; want %v", x.name, truth, e, want)
		}
	}
	if truth, e := post.Explain(theExample(), earlySales()[1:]); !slices.Equal(truth, early()) || e != api.OK {
		t.Errorf("Explain of the example: %v, %v", truth, e)
	}
}

func TestP10_4ProveTruth(t *testing.T) {
	cheap, dear := theSales()[1:], earlySales()[1:]
	for _, x := range []struct {
		name    string
		truth   []int
		records []post.Sale
		want    bool
	}{
		{"all sales", theTruth(), theSales(), true},
		{"all sales of the other truth", early(), earlySales(), true},
		{"in another order", theTruth(), said(theSales()[1], theSales()[0]), true},
		{"a part of them", theTruth(), cheap, true},
		{"no records", early(), nil, true},
		{"those of another truth", theTruth(), dear, false},
		{"one that is not", early(), append(earlySales(), cheap...), false},
		{"one twice", theTruth(), append(theSales(), cheap...), false},
		{"another number", theTruth(), said(sold(3, 2, 1, 38)), false},
		{"as many records as there may be", theTruth(), slices.Repeat(cheap, 6), false},
		{"too many records", theTruth(), slices.Repeat(cheap, 7), false},
		{"no truth", nil, nil, false},
		{"a minute too few", list(1, 2, 3), cheap, false},
		{"a minute too many", list(1, 2, 3, 0, 0), cheap, false},
		{"before its minutes", list(0, 2, 3, 0), nil, false},
		{"after its minutes", list(1, 2, 5, 0), nil, false},
		{"a minute far away", list(1, farthest, 3, 0), nil, false},
		{"a minute far below 0", list(1, 2, 3, lowest), nil, false},
		{"far too many minutes", make([]int, 1<<20), nil, false},
	} {
		if got := post.ProveTruth(theExample(), x.truth, x.records); got != x.want {
			t.Errorf("ProveTruth, %s: %v", x.name, got)
		}
	}
}

func TestP10_5Leave(t *testing.T) {
	for _, x := range allTold() {
		if left, e := post.Leave(x.p, x.records); !slices.Equal(left, x.left) || e != api.OK {
			t.Errorf("Leave, %s: %v, %v; want %v", x.name, left, e, x.left)
		}
	}
}
