package coupon_test

import (
	"slices"
	"testing"

	"contango/api"
	"contango/coupon"
)

// to returns the range with these ends.
func to(low, high int) coupon.Range { return coupon.Range{Lo: low, Hi: high} }

// one returns the range of one number.
func one(n int) coupon.Range { return to(n, n) }

// list returns the numbers as a list.
func list(numbers ...int) []int { return numbers }

// spans returns the ranges with these ends.
func spans(ends ...int) []coupon.Range {
	var list []coupon.Range
	for i := 0; i < len(ends); i += 2 {
		list = append(list, to(ends[i], ends[i+1]))
	}
	return list
}

// trade returns a trade.
func trade(seller, buyer, shares int, sold, delivered coupon.Range) coupon.Trade {
	return coupon.Trade{Seller: seller, Buyer: buyer, Shares: shares, Sold: sold, Delivered: delivered}
}

// on returns a trade on one day, delivered on another one.
func on(seller, buyer, shares, sold, delivered int) coupon.Trade {
	return trade(seller, buyer, shares, one(sold), one(delivered))
}

// company returns one with a dividend of 1 penny, Ex on the day 3, Record on the day 5.
func company(held []int, trades ...coupon.Trade) coupon.Company {
	return coupon.Company{Houses: len(held), Held: held, Trades: trades, Dividends: []coupon.Dividend{{Ex: 3, Record: 5, Pence: 1}}}
}

// split returns the company with one more split.
func split(c coupon.Company, day, num, den int) coupon.Company {
	c = copyOf(c)
	c.Splits = append(c.Splits, coupon.Split{Day: day, Num: num, Den: den})
	return c
}

// closed returns the company with its books closed, too, on these days.
func closed(c coupon.Company, low, high int) coupon.Company {
	c = copyOf(c)
	c.Closed = append(c.Closed, to(low, high))
	return c
}

// pays returns the company with this dividend alone.
func pays(c coupon.Company, ex, record, pence int) coupon.Company {
	c = copyOf(c)
	c.Dividends = []coupon.Dividend{{Ex: ex, Record: record, Pence: pence}}
	return c
}

// theExample is the company of the chapter's examples, with a trade of so many shares.
func theExample(shares int) coupon.Company {
	c := company(list(10, 0), trade(0, 1, shares, to(2, 3), to(4, 5)))
	return closed(split(pays(c, 3, 4, 5), 4, 3, 2), 5, 6)
}

// sells is a company of which the house 0 sells 4 of 10 shares, on these days.
func sells(sold, delivered int) coupon.Company {
	return company(list(10, 0), on(0, 1, 4, sold, delivered))
}

// passes is a company of which the house 1 sells what it buys.
func passes() coupon.Company {
	return company(list(5, 0, 0), trade(0, 1, 5, to(2, 3), to(3, 5)), trade(1, 2, 5, to(2, 3), to(3, 4)))
}

// when returns the truth with these days of sale and delivery, in turn.
func when(days ...int) coupon.Truth {
	var t coupon.Truth
	for i := 0; i < len(days); i += 2 {
		t.Sold, t.Delivered = append(t.Sold, days[i]), append(t.Delivered, days[i+1])
	}
	return t
}

// only returns the truth of a company whose days are known.
func only(c coupon.Company) coupon.Truth {
	var t coupon.Truth
	for _, x := range c.Trades {
		t.Sold, t.Delivered = append(t.Sold, x.Sold.Lo), append(t.Delivered, x.Delivered.Lo)
	}
	return t
}

func TestP7_1CheckCompany(t *testing.T) {
	for _, x := range append(validChanges(), wrongChanges()...) {
		c := theExample(4)
		x.change(&c)
		if e := coupon.CheckCompany(c); e != x.e {
			t.Errorf("CheckCompany, %s: %v; want %v", x.name, e, x.e)
		}
	}
}

func TestP7_1Registered(t *testing.T) {
	for _, x := range []struct {
		closed    []coupon.Range
		delivered int
		want      int
		e         api.Errno
	}{
		{spans(5, 6), 4, 4, api.OK},
		{spans(5, 6), 5, 7, api.OK},
		{spans(5, 6), 6, 7, api.OK},
		{spans(5, 6), 7, 7, api.OK},
		{nil, 0, 0, api.OK},
		{nil, 11, 11, api.OK},
		{spans(0, 0), 0, 1, api.OK},
		{spans(0, 11), 0, coupon.Never, api.OK},
		{spans(0, 11), 11, coupon.Never, api.OK},
		{spans(0, 10), 0, 11, api.OK},
		{spans(11, 11), 11, coupon.Never, api.OK},
		{spans(11, 11), 10, 10, api.OK},
		{spans(3, 4, 5, 6), 3, 7, api.OK},
		{spans(5, 6, 3, 4), 3, 7, api.OK},
		{spans(3, 4, 6, 7), 4, 5, api.OK},
		{spans(3, 8, 5, 6), 6, 9, api.OK},
		{spans(3, 6, 5, 8), 3, 9, api.OK},
		{spans(5, 8, 3, 6), 4, 9, api.OK},
		{spans(4, 4, 4, 4), 4, 5, api.OK},
		{spans(8, 9, 10, 11), 8, coupon.Never, api.OK},
		{nil, -1, 0, api.ErrRange},
		{nil, 12, 0, api.ErrRange},
		{spans(0, 11), 12, 0, api.ErrRange},
		{nil, 1<<63 - 1, 0, api.ErrRange},
		{nil, -1 << 63, 0, api.ErrRange},
	} {
		c := theExample(4)
		c.Closed = x.closed
		if n, e := coupon.Registered(c, x.delivered); n != x.want || e != x.e {
			t.Errorf("Registered of %v, %d: %d, %v; want %d, %v", x.closed, x.delivered, n, e, x.want, x.e)
		}
	}
}

func TestP7_1ProveTruth(t *testing.T) {
	noTrades := company(list(0, 0))
	for _, x := range []struct {
		name string
		c    coupon.Company
		t    coupon.Truth
		want bool
	}{
		{"first days", theExample(4), when(2, 4), true},
		{"last days", theExample(4), when(3, 5), true},
		{"sold too early", theExample(4), when(1, 4), false},
		{"sold too late", theExample(4), when(4, 4), false},
		{"delivered too early", theExample(4), when(2, 3), false},
		{"delivered too late", theExample(4), when(2, 6), false},
		{"no days", theExample(4), when(), false},
		{"no day of delivery", theExample(4), coupon.Truth{Sold: list(2)}, false},
		{"no day of sale", theExample(4), coupon.Truth{Delivered: list(4)}, false},
		{"too many days", theExample(4), when(2, 4, 2, 4), false},
		{"all shares", theExample(10), when(2, 4), true},
		{"a share too many", theExample(11), when(2, 4), false},
		{"no trades", noTrades, when(), true},
		{"no trades, but days", noTrades, when(0, 0), false},
		{"delivered on the day of sale", passes(), when(3, 3, 3, 3), true},
		{"delivered before the sale", company(list(9, 0), trade(0, 1, 1, to(2, 3), to(2, 3))), when(3, 2), false},
		{"bought on the day of delivery", passes(), when(2, 4, 2, 4), true},
		{"bought on the day after", passes(), when(2, 5, 2, 4), false},
		{"bought on an earlier day", passes(), when(2, 3, 2, 4), true},
		{"both closed", closed(passes(), 4, 5), when(2, 5, 2, 4), true},
		{"one closed", closed(passes(), 5, 5), when(2, 5, 2, 4), false},
		{"never registered", closed(theExample(11), 4, 11), when(2, 4), true},
		{"bought, but never registered", closed(passes(), 5, 11), when(2, 5, 2, 4), false},
		{"neither is registered", closed(passes(), 3, 11), when(2, 5, 2, 4), true},
		{"too little after a split", split(sells(4, 4), 3, 1, 3), when(4, 4), false},
		{"enough before a split", split(sells(2, 4), 3, 1, 3), when(2, 4), true},
		{"just enough after a split", split(company(list(8, 0), on(0, 1, 4, 4, 4)), 3, 1, 2), when(4, 4), true},
		{"too much before a split", split(company(list(3, 0), on(0, 1, 4, 2, 4)), 3, 6, 1), when(2, 4), false},
		{"enough after a split", split(company(list(3, 0), on(0, 1, 4, 3, 4)), 3, 6, 1), when(3, 4), true},
		{"too little on the first day", company(list(3, 9), on(0, 1, 4, 0, 0), on(1, 0, 4, 1, 1)), when(0, 0, 1, 1), false},
		{"too little on the last day", company(list(3, 9), on(0, 1, 4, 11, 11)), when(11, 11), false},
		{"too little for a day only", company(list(3, 9), on(0, 1, 4, 2, 4), on(1, 0, 4, 2, 5)), when(2, 4, 2, 5), false},
		{"no company", coupon.Company{}, when(), false},
	} {
		if coupon.ProveTruth(x.c, x.t) != x.want {
			t.Errorf("ProveTruth, %s: %v", x.name, !x.want)
		}
	}
}

func TestP7_2Whole(t *testing.T) {
	parts := split(split(company(list(7, 0), on(0, 1, 7, 2, 4)), 4, 3, 2), 7, 1, 4)
	for _, x := range []struct {
		name          string
		c             coupon.Company
		t             coupon.Truth
		day           int
		shares, units []int
	}{
		{"the example", theExample(4), when(2, 4), 3, list(10, 0), list(0, 0)},
		{"the example", theExample(4), when(2, 4), 4, list(9, 6), list(0, 0)},
		{"the example", theExample(4), when(2, 4), 0, list(10, 0), list(0, 0)},
		{"the example", theExample(4), when(2, 4), 11, list(9, 6), list(0, 0)},
		{"the example, closed", theExample(4), when(2, 5), 4, list(15, 0), list(0, 0)},
		{"the example, closed", theExample(4), when(2, 5), 6, list(15, 0), list(0, 0)},
		{"the example, open again", theExample(4), when(2, 5), 7, list(9, 6), list(0, 0)},
		{"a half", theExample(7), when(2, 4), 4, list(4, 10), list(360, 360)},
		{"all", theExample(10), when(2, 4), 4, list(0, 15), list(0, 0)},
		{"a half, before", parts, when(2, 4), 3, list(7, 0), list(0, 0)},
		{"a half", parts, when(2, 4), 6, list(0, 10), list(0, 360)},
		{"a quarter of it", parts, when(2, 4), 7, list(0, 2), list(0, 450)},
		{"a sixteenth", split(split(company(list(1)), 2, 1, 4), 5, 1, 4), when(), 1, list(1), list(0)},
		{"a sixteenth", split(split(company(list(1)), 2, 1, 4), 5, 1, 4), when(), 2, list(0), list(180)},
		{"a sixteenth", split(split(company(list(1)), 2, 1, 4), 5, 1, 4), when(), 5, list(0), list(45)},
		{"a ninth", split(split(company(list(1)), 2, 1, 3), 5, 1, 3), when(), 9, list(0), list(80)},
		{"two thirds of three quarters", split(split(company(list(1)), 2, 2, 3), 5, 3, 4), when(), 9, list(0), list(360)},
		{"the most there can be", split(split(company(list(100)), 2, 6, 1), 5, 6, 1), when(), 9, list(3600), list(0)},
		{"a split on the first day", split(company(list(7)), 0, 1, 2), when(), 0, list(3), list(360)},
		{"a split on the last day", split(company(list(7)), 11, 1, 2), when(), 10, list(7), list(0)},
		{"a split on the last day", split(company(list(7)), 11, 1, 2), when(), 11, list(3), list(360)},
		{"a split of 2 for 2", split(company(list(7)), 3, 2, 2), when(), 5, list(7), list(0)},
		{"sold on the day of the split", split(sells(4, 4), 4, 3, 2), when(4, 4), 4, list(11, 4), list(0, 0)},
		{"sold on the day before the split", split(sells(3, 4), 4, 3, 2), when(3, 4), 4, list(9, 6), list(0, 0)},
		{"sold on the first day, with a split", split(sells(0, 0), 0, 3, 2), when(0, 0), 0, list(11, 4), list(0, 0)},
		{"split between sale and delivery", split(sells(2, 6), 4, 1, 4), when(2, 6), 5, list(2, 0), list(360, 0)},
		{"split between sale and delivery", split(sells(2, 6), 4, 1, 4), when(2, 6), 6, list(1, 1), list(360, 0)},
		{"split after delivery", split(sells(2, 3), 4, 1, 4), when(2, 3), 4, list(1, 1), list(360, 0)},
		{"never registered", closed(sells(2, 3), 3, 11), when(2, 3), 11, list(10, 0), list(0, 0)},
		{"passed on", passes(), when(2, 3, 2, 3), 3, list(0, 0, 5), list(0, 0, 0)},
		{"passed on later", passes(), when(2, 3, 2, 4), 3, list(0, 5, 0), list(0, 0, 0)},
		{"the last day", sells(11, 11), when(11, 11), 11, list(6, 4), list(0, 0)},
	} {
		s, u, e := coupon.Whole(x.c, x.t, x.day)
		if !slices.Equal(s, x.shares) || !slices.Equal(u, x.units) || e != api.OK {
			t.Errorf("Whole, %s, on %d: %v, %v, %v; want %v, %v", x.name, x.day, s, u, e, x.shares, x.units)
		}
	}
}

// allMoney calls Paid, Claims and Rights, which must have no error.
func allMoney(t *testing.T, c coupon.Company, truth coupon.Truth, dividend int) money {
	t.Helper()
	paid, e := coupon.Paid(c, truth, dividend)
	claims, f := coupon.Claims(c, truth, dividend)
	rights, g := coupon.Rights(c, truth, dividend)
	if e != api.OK || f != api.OK || g != api.OK {
		t.Fatalf("Paid, Claims, Rights of %v, %v, %d: %v, %v, %v", c, truth, dividend, e, f, g)
	}
	return money{paid, claims, rights}
}

// received is a company with known days, and what is due of its dividend 0.
type received struct {
	name string
	c    coupon.Company
	want money
}

// allReceived are companies whose house 0 sells 4 of 10 shares; unless they say
// otherwise, the dividend is Ex on the day 3, and recorded on the day 5.
func allReceived() []received {
	sold, kept := list(6*720, 4*720), list(10*720, 0)
	none, due, owed := list(0), list(4*720), list(-4*720)
	return []received{
		{"sold before, registered on the day", sells(2, 5), money{sold, none, sold}},
		{"sold before, registered before", sells(2, 3), money{sold, none, sold}},
		{"sold before, registered later", sells(2, 6), money{kept, due, sold}},
		{"sold on the first day, registered on the last one", sells(0, 11), money{kept, due, sold}},
		{"sold on the day Ex, registered on the day", sells(3, 5), money{sold, owed, kept}},
		{"sold on the day Ex, registered at once", sells(3, 3), money{sold, owed, kept}},
		{"sold on the day Ex, registered later", sells(3, 6), money{kept, none, kept}},
		{"sold on the record day, registered at once", sells(5, 5), money{sold, owed, kept}},
		{"sold after the record day", sells(6, 6), money{kept, none, kept}},
		{"the books are closed on the record day", closed(sells(2, 5), 5, 5), money{kept, due, sold}},
		{"the books are closed before it", closed(sells(2, 3), 3, 4), money{sold, none, sold}},
		{"the books are closed after it", closed(sells(2, 5), 6, 11), money{sold, none, sold}},
		{"the books are never opened", closed(sells(2, 5), 4, 11), money{kept, due, sold}},
		{"the books are never opened for what is sold later", closed(sells(3, 5), 4, 11), money{kept, none, kept}},
		{"no pence", pays(sells(2, 6), 3, 5, 0), money{list(0, 0), none, list(0, 0)}},
		{"most pence", pays(sells(2, 6), 3, 5, 50), money{list(360000, 0), list(144000), list(216000, 144000)}},
		{"Ex is Record, sold before", pays(sells(4, 5), 5, 5, 1), money{sold, none, sold}},
		{"Ex is Record, sold on it", pays(sells(5, 5), 5, 5, 1), money{sold, owed, kept}},
		{"Ex on the first day", pays(sells(0, 0), 0, 0, 1), money{sold, owed, kept}},
		{"Record on the last day", pays(sells(2, 11), 3, 11, 1), money{sold, none, sold}},
		{"no trades", company(list(10, 0)), money{kept, nil, kept}},
	}
}

// splitReceived are those of companies with splits of 3 for 2.
func splitReceived() []received {
	sold, kept := list(9*720, 6*720), list(15*720, 0)
	due, owed := list(6*720), list(-6*720)
	return []received{
		{"split after the sale", split(sells(1, 6), 2, 3, 2), money{kept, due, sold}},
		{"split on the day Ex", split(sells(2, 6), 3, 3, 2), money{kept, due, sold}},
		{"split on the record day", split(sells(2, 6), 5, 3, 2), money{kept, due, sold}},
		{"split on the record day, registered", split(sells(2, 3), 5, 3, 2), money{sold, list(0), sold}},
		{"split after the record day", split(sells(2, 6), 6, 3, 2), money{list(7200, 0), list(2880), list(4320, 2880)}},
		{"split on the day of the sale", split(sells(2, 6), 2, 3, 2), money{kept, list(2880), list(11*720, 2880)}},
		{"split before the sale", split(sells(2, 6), 1, 3, 2), money{kept, list(2880), list(11*720, 2880)}},
		{"split after the sale on the day Ex", split(sells(3, 5), 4, 3, 2), money{sold, owed, kept}},
		{"split twice", split(split(sells(2, 6), 3, 3, 2), 4, 1, 4), money{list(2700, 0), list(1080), list(1620, 1080)}},
	}
}

// handedOn are those of companies with more trades.
func handedOn() []received {
	short := company(list(5, 0, 0), on(0, 1, 5, 3, 4), on(1, 2, 5, 2, 4))
	long := company(list(5, 0, 0), on(0, 1, 5, 2, 4), on(1, 2, 5, 3, 4))
	late := company(list(5, 0, 0), on(0, 1, 5, 2, 6), on(1, 2, 5, 2, 6))
	return []received{
		{"a right below 0", short, money{list(0, 0, 3600), list(-3600, 0), list(3600, -3600, 3600)}},
		{"the right of one between", long, money{list(0, 0, 3600), list(0, -3600), list(0, 3600, 0)}},
		{"owed from one to the other", late, money{list(3600, 0, 0), list(3600, 3600), list(0, 0, 3600)}},
		{"there and back", company(list(5, 5), on(0, 1, 5, 2, 6), on(1, 0, 5, 3, 5)), money{list(7200, 0), list(3600, -3600), list(0, 7200)}},
	}
}

func TestP7_3Money(t *testing.T) {
	for _, x := range slices.Concat(allReceived(), splitReceived(), handedOn()) {
		if got := allMoney(t, x.c, only(x.c), 0); !got.isSame(x.want) {
			t.Errorf("Paid, Claims, Rights, %s: %v; want %v", x.name, got, x.want)
		}
	}
}

// TestP7_3Example has the chapter's examples.
func TestP7_3Example(t *testing.T) {
	for _, x := range []struct {
		t    coupon.Truth
		want money
	}{
		{when(2, 4), money{list(32400, 21600), list(0), list(32400, 21600)}},
		{when(2, 5), money{list(54000, 0), list(21600), list(32400, 21600)}},
		{when(3, 4), money{list(32400, 21600), list(-21600), list(54000, 0)}},
		{when(3, 5), money{list(54000, 0), list(0), list(54000, 0)}},
	} {
		if got := allMoney(t, theExample(4), x.t, 0); !got.isSame(x.want) {
			t.Errorf("Paid, Claims, Rights of %v: %v; want %v", x.t, got, x.want)
		}
	}
}

// TestP7_3Dividends: each dividend has days and pence of its own.
func TestP7_3Dividends(t *testing.T) {
	c := sells(2, 5)
	c.Dividends = []coupon.Dividend{{Ex: 3, Record: 4, Pence: 1}, {Ex: 2, Record: 6, Pence: 2}, {Ex: 3, Record: 5, Pence: 3}}
	for dividend, want := range []money{
		{list(7200, 0), list(2880), list(4320, 2880)},
		{list(8640, 5760), list(-5760), list(14400, 0)},
		{list(12960, 8640), list(0), list(12960, 8640)},
	} {
		if got := allMoney(t, c, only(c), dividend); !got.isSame(want) {
			t.Errorf("Paid, Claims, Rights of the dividend %d: %v; want %v", dividend, got, want)
		}
	}
}

// allBounds calls Bounds, which must have no error.
func allBounds(t *testing.T, c coupon.Company, dividend int) bounds {
	t.Helper()
	paid, claims, rights, e := coupon.Bounds(c, dividend)
	if e != api.OK {
		t.Fatalf("Bounds of %v, %d: %v", c, dividend, e)
	}
	return bounds{paid, claims, rights}
}

func TestP7_4Bounds(t *testing.T) {
	twoTrades := company(list(9, 9), trade(0, 1, 1, one(2), to(4, 6)), trade(1, 0, 2, to(2, 3), one(5)))
	twoPaid := pays(theExample(4), 3, 4, 5)
	twoPaid.Dividends = append(twoPaid.Dividends, coupon.Dividend{Ex: 2, Record: 3, Pence: 1})
	late := company(list(9, 0), trade(0, 1, 1, to(2, 4), to(2, 3)))
	between := split(pays(company(list(10, 0), trade(0, 1, 4, to(2, 3), one(6))), 4, 5, 1), 3, 3, 2)
	for _, x := range []struct {
		name     string
		c        coupon.Company
		dividend int
		want     bounds
	}{
		{"the example", theExample(4), 0, bounds{spans(32400, 54000, 0, 21600), spans(-21600, 21600), spans(32400, 54000, 0, 21600)}},
		{"another dividend", twoPaid, 1, bounds{spans(7200, 7200, 0, 0), spans(0, 0), spans(7200, 7200, 0, 0)}},
		{"no trades", company(list(10, 0)), 0, bounds{spans(7200, 7200, 0, 0), nil, spans(7200, 7200, 0, 0)}},
		{"known days", sells(2, 6), 0, bounds{spans(7200, 7200, 0, 0), spans(2880, 2880), spans(4320, 4320, 2880, 2880)}},
		{"not delivered before the sale", late, 0, bounds{spans(5760, 5760, 720, 720), spans(-720, 0), spans(5760, 6480, 0, 720)}},
		{"not sold before it is bought", pays(passes(), 3, 3, 1), 0, bounds{spans(0, 3600, 0, 3600, 0, 3600), spans(-3600, 3600, -3600, 3600), spans(0, 3600, -3600, 3600, 0, 3600)}},
		{"not without the other trade", pays(passes(), 3, 4, 1), 0, bounds{spans(0, 0, 0, 0, 3600, 3600), spans(-3600, 0, -3600, 0), spans(0, 3600, -3600, 3600, 0, 3600)}},
		{"two trades", twoTrades, 0, bounds{spans(7200, 7920, 5040, 5760), spans(0, 720, -1440, 0), spans(5760, 7200, 5760, 7200)}},
		{"a split between days of sale", between, 0, bounds{spans(10800, 10800, 0, 0), spans(2880, 4320), spans(6480, 7920, 2880, 4320)}},
	} {
		if got := allBounds(t, x.c, x.dividend); !got.isSame(x.want) {
			t.Errorf("Bounds, %s: %v; want %v", x.name, got, x.want)
		}
	}
}

// left is a company, and the smallest set of trades that have to be left out.
type left struct {
	name string
	c    coupon.Company
	want []int
}

func allLeft() []left {
	six := on(0, 1, 6, 2, 3)
	late := passes()
	late.Trades[0].Delivered = to(5, 6)
	return []left{
		{"the example", theExample(4), nil},
		{"all shares", theExample(10), nil},
		{"more than all shares", theExample(11), list(0)},
		{"no trades", company(list(0, 0)), nil},
		{"one house", company(list(0)), nil},
		{"both cannot be", company(list(10, 0), six, six), list(0)},
		{"of three one can be", company(list(10, 0), six, six, six), list(0, 1)},
		{"of three two can be", company(list(12, 0), six, six, six), list(0)},
		{"of four one can be", company(list(6, 0), six, six, six, six), list(0, 1, 2)},
		{"of four none can be", company(list(5, 0), six, six, six, six), list(0, 1, 2, 3)},
		{"the second one alone", company(list(5, 5), on(0, 1, 5, 2, 3), on(0, 1, 100, 2, 3), on(1, 0, 5, 2, 3)), list(1)},
		{"sold before it is delivered", late, list(1)},
		{"the last one", company(list(5, 0, 0), on(0, 1, 5, 2, 3), on(1, 2, 5, 2, 3), on(0, 2, 1, 0, 0)), list(2)},
		{"the second and the last one", company(list(2, 0, 0), on(0, 1, 2, 1, 2), on(0, 1, 3, 1, 2), on(1, 2, 2, 2, 3), on(1, 2, 3, 4, 4)), list(1, 3)},
		{"the shorter list", company(list(6, 0), on(0, 1, 3, 1, 1), on(0, 1, 3, 1, 1), on(0, 1, 6, 1, 1)), list(2)},
		{"delivered before it is sold", company(list(9, 0), trade(0, 1, 1, to(5, 6), to(2, 4))), list(0)},
		{"delivered on the day on which it is sold", company(list(9, 0), trade(0, 1, 1, to(5, 6), to(3, 5))), nil},
		{"never registered", closed(theExample(11), 4, 11), nil},
		{"enough with a fraction", split(company(list(7, 0), on(0, 1, 3, 4, 4)), 3, 1, 2), nil},
		{"not enough with a fraction", split(company(list(7, 0), on(0, 1, 4, 4, 4)), 3, 1, 2), list(0)},
		{"bought in time", company(list(5, 0, 0), trade(0, 1, 5, to(2, 3), to(3, 5)), on(1, 2, 5, 2, 3)), nil},
	}
}

func TestP7_5Leave(t *testing.T) {
	for _, x := range allLeft() {
		if l, e := coupon.Leave(x.c); !slices.Equal(l, x.want) || e != api.OK {
			t.Errorf("Leave, %s: %v, %v; want %v", x.name, l, e, x.want)
		}
	}
}

// TestP7_4NoTruth: where some trades have to be left out, and only there, Bounds
// has no result.
func TestP7_4NoTruth(t *testing.T) {
	for _, x := range allLeft() {
		paid, claims, rights, e := coupon.Bounds(x.c, 0)
		if len(x.want) > 0 && (e != api.ErrFail || paid != nil || claims != nil || rights != nil) {
			t.Errorf("Bounds, %s: %v, %v, %v, %v", x.name, paid, claims, rights, e)
		}
		if len(x.want) == 0 && e != api.OK {
			t.Errorf("Bounds, %s: %v", x.name, e)
		}
	}
}
