package odd_test

import (
	"slices"
	"testing"

	"contango/api"
	"contango/odd"
	"contango/tape"
)

// to returns the range with these ends.
func to(low, high int) odd.Range { return odd.Range{Lo: low, Hi: high} }

// one returns the range of one number.
func one(n int) odd.Range { return to(n, n) }

// buys returns an order of 10 shares that buys.
func buys(stock, limit int, minute odd.Range) odd.Order {
	return odd.Order{Buy: true, Stock: stock, Number: 10, Limit: limit, Minute: minute}
}

// sells returns an order of 10 shares that sells.
func sells(stock, limit int, minute odd.Range) odd.Order {
	return odd.Order{Stock: stock, Number: 10, Limit: limit, Minute: minute}
}

// exampleTape has the sales of AB 306 at 5..5 and 309 at 5..6, and of C 81 at
// 5..6 and 87 at 6..7.
const exampleTape = "@5 AB 3s 8.2 L1-2 @7 8.5 C 0.1 ! @8 0.7 ?"

// exampleDesk has the board of chapter 2's examples.
func exampleDesk(said string, fee int, orders ...odd.Order) odd.Desk {
	b := tape.Board{Stocks: []tape.Stock{{Name: "AB", Start: tape.Range{Lo: 300, Hi: 310}}, {Name: "C", Start: tape.Range{Lo: 75, Hi: 79}}}, Jump: 10, Small: 4}
	return odd.Desk{Board: b, Tape: said, Fee: fee, Orders: orders}
}

// wideDesk has a stock whose price before the tape is hardly known, one whose
// price is, and one at the least price.
func wideDesk(said string, fee int, orders ...odd.Order) odd.Desk {
	b := tape.Board{Stocks: []tape.Stock{{Name: "X", Start: tape.Range{Lo: 100, Hi: 300}}, {Name: "Y", Start: tape.Range{Lo: 200, Hi: 200}}, {Name: "L", Start: tape.Range{Lo: 1, Hi: 1}}}, Jump: 40, Small: 4}
	return odd.Desk{Board: b, Tape: said, Fee: fee, Orders: orders}
}

// theExample is the desk of the chapter's examples.
func theExample() odd.Desk {
	d := exampleDesk(exampleTape, 1, buys(0, 0, to(4, 5)), sells(0, 308, one(5)), buys(1, 85, to(4, 6)))
	d.Orders[1].Number, d.Orders[2].Number = 20, 30
	return d
}

// exampleTruth is the truth of the chapter's examples.
func exampleTruth() odd.Truth {
	return odd.Truth{Prices: []int{306, 309, 81, 87}, Minutes: []int{5, 6, 6, 7}, Orders: []int{5, 5, 6}}
}

// none is the fill of an order that is not filled.
func none() odd.Fill { return odd.Fill{Sale: odd.None} }

// fill returns the fill by the sale at this price of the order.
func fill(sale, price int) odd.Fill { return odd.Fill{Sale: sale, Price: price} }

func TestP4_1CheckDesk(t *testing.T) {
	if e := odd.CheckDesk(theExample()); e != api.OK {
		t.Errorf("CheckDesk of the example: %v", e)
	}
	for _, x := range append(validChanges(), wrongChanges()...) {
		d := theExample()
		x.change(&d)
		if e := odd.CheckDesk(d); e != x.e {
			t.Errorf("CheckDesk, %s: %v; want %v", x.name, e, x.e)
		}
	}
}

// played is a desk with a truth of it, and what is due of both.
type played struct {
	name   string
	d      odd.Desk
	t      odd.Truth
	fills  []odd.Fill
	shares []int
	money  int
}

// inExample is what is due of the desk of the example in a changed truth.
func inExample(name string, change func(t *odd.Truth), money int, shares []int, fills ...odd.Fill) played {
	truth := exampleTruth()
	change(&truth)
	return played{name, theExample(), truth, fills, shares, money}
}

// atOne is what is due of one order of 10 shares in a truth whose tape has one
// sale: of AB, 306 at 7, or of the stock L, 3 at 7.
func atOne(name, said string, price, fee int, o odd.Order, minute, shares, money int, f odd.Fill) played {
	d := exampleDesk(said, fee, o)
	if price < 10 {
		d = wideDesk(said, fee, o)
	}
	list := make([]int, len(d.Board.Stocks))
	list[o.Stock] = shares
	return played{name, d, odd.Truth{Prices: []int{price}, Minutes: []int{7}, Orders: []int{minute}}, []odd.Fill{f}, list, money}
}

func allPlayed() []played {
	const ab, low = "@7 AB 8.2", "@7 L 0.3"
	always := to(0, api.MaxTapeMinute)
	return []played{
		inExample("the example", func(t *odd.Truth) {}, -3060, []int{10, 0}, fill(1, 310), fill(1, 308), none()),
		inExample("before both sales", func(t *odd.Truth) { t.Orders[0] = 4 }, -3090, []int{10, 0}, fill(0, 307), fill(1, 308), none()),
		inExample("a sale in the minute of the order", func(t *odd.Truth) { t.Minutes[1] = 5 }, 0, []int{0, 0}, none(), none(), none()),
		inExample("a sale after the order", func(t *odd.Truth) { t.Orders[2] = 5 }, -600, []int{10, -30}, fill(1, 310), fill(1, 308), fill(2, 82)),
		{"no orders", exampleDesk(ab, 4), odd.Truth{Prices: []int{306}, Minutes: []int{7}}, nil, []int{0, 0}, 0},
		{"no sales", exampleDesk("", 1, buys(1, 0, one(0))), odd.Truth{Orders: []int{0}}, []odd.Fill{none()}, []int{0, 0}, 0},
		{"sales of another stock", exampleDesk(ab, 1, buys(1, 0, one(0))), odd.Truth{Prices: []int{306}, Minutes: []int{7}, Orders: []int{0}}, []odd.Fill{none()}, []int{0, 0}, 0},
		atOne("buys without a limit", ab, 306, 4, buys(0, 0, always), 6, -10, 3100, fill(0, 310)),
		atOne("sells without a limit", ab, 306, 4, sells(0, 0, always), 6, 10, -3020, fill(0, 302)),
		atOne("in the minute of the sale", ab, 306, 4, buys(0, 0, always), 7, 0, 0, none()),
		atOne("after the sale", ab, 306, 4, buys(0, 0, always), 8, 0, 0, none()),
		atOne("buys at its limit", ab, 306, 4, buys(0, 310, always), 0, -10, 3100, fill(0, 310)),
		atOne("buys above its limit", ab, 306, 4, buys(0, 309, always), 0, 0, 0, none()),
		atOne("buys below its limit", ab, 306, 4, buys(0, 799, always), 0, -10, 3100, fill(0, 310)),
		atOne("sells at its limit", ab, 306, 4, sells(0, 302, always), 0, 10, -3020, fill(0, 302)),
		atOne("sells below its limit", ab, 306, 4, sells(0, 303, always), 0, 0, 0, none()),
		atOne("sells above its limit", ab, 306, 4, sells(0, 1, always), 0, 10, -3020, fill(0, 302)),
		atOne("without a fee", ab, 306, 0, buys(0, 306, always), 0, -10, 3060, fill(0, 306)),
		atOne("sells without a fee", ab, 306, 0, sells(0, 306, always), 0, 10, -3060, fill(0, 306)),
		atOne("sells at the fee", low, 3, 3, sells(2, 0, always), 0, 10, 0, fill(0, 0)),
		atOne("sells below the fee", low, 3, 4, sells(2, 0, always), 0, 10, 0, fill(0, 0)),
		atOne("sells below the fee with a limit", low, 3, 4, sells(2, 1, always), 0, 0, 0, none()),
		atOne("buys below the fee", low, 3, 4, buys(2, 7, always), 0, -10, 70, fill(0, 7)),
		{"the next sale that lets it trade", wideDesk("@1 Y $25.0 $27.0 @2 $26.0", 1, buys(1, 210, one(1)), buys(1, 203, one(0)), sells(1, 212, one(0)), sells(1, 207, one(1))),
			odd.Truth{Prices: []int{200, 216, 208}, Minutes: []int{1, 1, 2}, Orders: []int{1, 0, 0, 1}},
			[]odd.Fill{fill(2, 209), fill(0, 201), fill(1, 215), fill(2, 207)}, []int{0, 0, 0}, 2090 + 2010 - 2150 - 2070},
	}
}

func TestP4_1Play(t *testing.T) {
	for _, x := range allPlayed() {
		if l, e := odd.Play(x.d, x.t); !slices.Equal(l, x.fills) || e != api.OK {
			t.Errorf("Play, %s: %v, %v; want %v", x.name, l, e, x.fills)
		}
		if !odd.ProveTruth(x.d, x.t) {
			t.Errorf("ProveTruth, %s", x.name)
		}
	}
}

func TestP4_1Has(t *testing.T) {
	for _, x := range allPlayed() {
		if s, m, e := odd.Has(x.d, x.t); !slices.Equal(s, x.shares) || m != x.money || e != api.OK {
			t.Errorf("Has, %s: %v, %d, %v; want %v, %d", x.name, s, m, e, x.shares, x.money)
		}
	}
}

// told is a desk with what is due of each order.
type told struct {
	name     string
	d        odd.Desk
	bounds   []odd.Range
	verdicts []int
	sales    [][]int
}

// ofOne is what is due of the only order of a desk.
func ofOne(name string, d odd.Desk, bounds odd.Range, verdict int, sales ...int) told {
	return told{name, d, []odd.Range{bounds}, []int{verdict}, [][]int{sales}}
}

func allTold() []told {
	return append([]told{
		{"the example", theExample(), []odd.Range{to(307, 310), one(308), one(82)}, []int{odd.Open, odd.Open, odd.Open}, [][]int{{0, 1}, {1}, {2}}},
		{"no orders", exampleDesk(exampleTape, 1), nil, nil, nil},
		ofOne("no sales", exampleDesk("", 1, buys(0, 0, one(0))), one(0), odd.Never),
		ofOne("no sales of the stock", exampleDesk("@7 AB 8.2", 1, buys(1, 0, one(0))), one(0), odd.Never),
		ofOne("before the sale", exampleDesk("@7 AB 8.2", 1, buys(0, 0, to(0, 6))), one(307), odd.Always, 0),
		ofOne("before the sale or not", exampleDesk("@7 AB 8.2", 1, buys(0, 0, to(6, 7))), one(307), odd.Open, 0),
		ofOne("in the minute of the sale", exampleDesk("@7 AB 8.2", 1, buys(0, 0, to(7, 8))), one(0), odd.Never),
		ofOne("the last minute", exampleDesk("@600 AB 8.2", 1, buys(0, 0, to(599, 600))), one(307), odd.Open, 0),
		ofOne("the sale is at the first minute", exampleDesk("AB 8.2", 1, buys(0, 0, one(0))), one(0), odd.Never),
		ofOne("the sale is before the first minute", exampleDesk("L1-60 AB 8.2", 1, buys(0, 0, one(0))), one(0), odd.Never),
		ofOne("the sale can be before the first minute", exampleDesk("L0-60 @1 AB 8.2", 1, buys(0, 0, one(0))), one(307), odd.Open, 0),
		ofOne("two sales in one minute", exampleDesk("@7 AB 8.2 8.5", 1, buys(0, 0, to(0, 9))), one(307), odd.Open, 0),
		ofOne("two sales in two minutes", exampleDesk("@7 AB 8.2 @8 8.5", 1, buys(0, 0, to(0, 7))), to(307, 310), odd.Always, 0, 1),
		ofOne("between two sales that are late", exampleDesk("L1-2 @7 AB 8.2 8.5", 1, buys(0, 0, one(5))), to(307, 310), odd.Open, 0, 1),
		ofOne("another stock's sale holds it from below", exampleDesk("L0-9 @9 C 0.1 L0-0 @9 C 0.7 L0-9 AB 8.2", 1, buys(0, 0, one(8))), one(307), odd.Always, 2),
		ofOne("another stock's sale holds it from above", exampleDesk("L0-9 @9 AB 8.2 L2-2 C 0.1", 1, buys(0, 0, one(7))), one(0), odd.Never),
		ofOne("another stock's sale is between", exampleDesk("L0-9 @9 AB 8.2 L2-2 C 0.1 L0-9 AB 8.5", 1, buys(0, 0, one(6))), to(307, 310), odd.Always, 0, 2),
	}, allLimited()...)
}

// allLimited are desks with limits, and prices that can be several.
func allLimited() []told {
	return []told{
		ofOne("buys at its limit", exampleDesk("@7 AB 8.2", 1, buys(0, 307, one(0))), one(307), odd.Always, 0),
		ofOne("buys above its limit", exampleDesk("@7 AB 8.2", 1, buys(0, 306, one(0))), one(0), odd.Never),
		ofOne("sells at its limit", exampleDesk("@7 AB 8.2", 1, sells(0, 305, one(0))), one(305), odd.Always, 0),
		ofOne("sells below its limit", exampleDesk("@7 AB 8.2", 1, sells(0, 306, one(0))), one(0), odd.Never),
		ofOne("sells below the fee", wideDesk("@7 L 0.3", 4, sells(2, 0, one(0))), one(0), odd.Always, 0),
		ofOne("sells below the fee or above it", wideDesk("@7 L 0.3 @8 4.3", 4, sells(2, 0, to(0, 7))), to(0, 31), odd.Always, 0, 1),
		ofOne("sells below the fee with a limit", wideDesk("@7 L 0.3", 4, sells(2, 1, one(0))), one(0), odd.Never),
		ofOne("four prices", wideDesk("@7 X 0.0", 2, buys(0, 0, one(0))), to(82, 322), odd.Always, 0),
		ofOne("four prices for one who sells", wideDesk("@7 X 0.0", 2, sells(0, 0, one(0))), to(78, 318), odd.Always, 0),
		ofOne("the limit lets some prices", wideDesk("@7 X 0.0", 2, buys(0, 321, one(0))), to(82, 242), odd.Open, 0),
		ofOne("the limit lets one price", wideDesk("@7 X 0.0", 2, sells(0, 318, one(0))), one(318), odd.Open, 0),
		ofOne("two jumps of 40", wideDesk("@5 Y 0.0 @7 5.0", 0, buys(1, 0, one(5))), to(120, 280), odd.Always, 1),
		ofOne("a later sale excludes a price", wideDesk("@5 Y 0.0 @7 5.0 $30.0", 0, buys(1, 0, one(5))), to(200, 280), odd.Always, 1),
		ofOne("a later sale excludes all prices but one", wideDesk("@5 Y 0.0 @7 5.0 $35.0", 0, buys(1, 0, one(5))), one(280), odd.Always, 1),
		ofOne("a limit that one of two prices keeps, and one that both keep", wideDesk("@5 Y 0.0 5.0", 0, buys(1, 160, one(0)), buys(1, 240, one(0))), one(160), odd.Open, 0).and(to(160, 240), odd.Always, 0),
		ofOne("the second sale is near the first one", wideDesk("@5 X 0.0 5.0", 2, sells(0, 278, one(0))), to(278, 318), odd.Open, 0, 1),
		ofOne("the first sale fills it, or all others do", wideDesk("@5 X 0.0 @9 $15.0", 2, buys(0, 160, to(0, 4))), to(82, 122), odd.Always, 0, 1),
		ofOne("prices after a sale that was before the order", wideDesk("@5 X 5.0 @7 0.0", 0, sells(0, 200, one(5))), to(240, 320), odd.Open, 1),
	}
}

// and adds what is due of one more order.
func (x told) and(bounds odd.Range, verdict int, sales ...int) told {
	x.bounds = append(x.bounds, bounds)
	x.verdicts = append(x.verdicts, verdict)
	x.sales = append(x.sales, sales)
	return x
}

func TestP4_2Sales(t *testing.T) {
	for _, x := range allTold() {
		for i := range x.d.Orders {
			if l, e := odd.Sales(x.d, i); !slices.Equal(l, x.sales[i]) || e != api.OK {
				t.Errorf("Sales, %s, %d: %v, %v; want %v", x.name, i, l, e, x.sales[i])
			}
		}
	}
}

func TestP4_3Bounds(t *testing.T) {
	for _, x := range allTold() {
		if l, e := odd.Bounds(x.d); !slices.Equal(l, x.bounds) || e != api.OK {
			t.Errorf("Bounds, %s: %v, %v; want %v", x.name, l, e, x.bounds)
		}
	}
}

func TestP4_4Verdicts(t *testing.T) {
	for _, x := range allTold() {
		if l, e := odd.Verdicts(x.d); !slices.Equal(l, x.verdicts) || e != api.OK {
			t.Errorf("Verdicts, %s: %v, %v; want %v", x.name, l, e, x.verdicts)
		}
	}
}

func TestP4_5Show(t *testing.T) {
	for _, x := range allTold() {
		for i := range x.d.Orders {
			checkShow(t, x.d, i, x.verdicts[i] == odd.Never, x.bounds[i])
		}
	}
}

// checkShow compares both truths that Show returns of an order with the bounds
// of its price.
func checkShow(t *testing.T, d odd.Desk, order int, isNever bool, bounds odd.Range) {
	t.Helper()
	for high, due := range map[bool]int{false: bounds.Lo, true: bounds.Hi} {
		truth, e := odd.Show(d, order, high)
		if isNever {
			if e != api.ErrRange || truth.Prices != nil || truth.Minutes != nil || truth.Orders != nil {
				t.Fatalf("Show of %v, %d, %v: %v, %v", d, order, high, truth, e)
			}
			continue
		}
		fills, f := odd.Play(d, truth)
		if e != api.OK || f != api.OK || !odd.ProveTruth(d, truth) || fills[order].Sale == odd.None || fills[order].Price != due {
			t.Fatalf("Show of %v, %d, %v: %v, %v: %v, %v; want %d", d, order, high, truth, e, fills, f, due)
		}
	}
}

func TestP4_6ProveTruth(t *testing.T) {
	for _, x := range []struct {
		name   string
		change func(d *odd.Desk, t *odd.Truth)
		want   bool
	}{
		{"the example", func(d *odd.Desk, t *odd.Truth) {}, true},
		{"the first minutes", func(d *odd.Desk, t *odd.Truth) { t.Minutes, t.Orders = []int{5, 5, 5, 6}, []int{4, 5, 4} }, true},
		{"other minutes of the sales between", func(d *odd.Desk, t *odd.Truth) { t.Minutes = []int{5, 5, 6, 6} }, true},
		{"another price", func(d *odd.Desk, t *odd.Truth) { t.Prices[1] = 308 }, false},
		{"another price with the same figures", func(d *odd.Desk, t *odd.Truth) { t.Prices[2] = 161 }, false},
		{"a minute too late", func(d *odd.Desk, t *odd.Truth) { t.Minutes[3] = 8 }, false},
		{"a minute too early", func(d *odd.Desk, t *odd.Truth) { t.Minutes = []int{5, 5, 5, 5} }, false},
		{"a minute before the sale before", func(d *odd.Desk, t *odd.Truth) { t.Minutes[2] = 5 }, false},
		{"a minute far too late", func(d *odd.Desk, t *odd.Truth) { t.Minutes[3] = 1<<63 - 1 }, false},
		{"a minute far too early", func(d *odd.Desk, t *odd.Truth) { t.Minutes[0] = -1 << 63 }, false},
		{"an order too late", func(d *odd.Desk, t *odd.Truth) { t.Orders[2] = 7 }, false},
		{"an order too early", func(d *odd.Desk, t *odd.Truth) { t.Orders[2] = 3 }, false},
		{"an order far too early", func(d *odd.Desk, t *odd.Truth) { t.Orders[2] = -1 << 63 }, false},
		{"a price too few", func(d *odd.Desk, t *odd.Truth) { t.Prices = t.Prices[:3] }, false},
		{"a price too many", func(d *odd.Desk, t *odd.Truth) { t.Prices = append(t.Prices, 87) }, false},
		{"a minute too few", func(d *odd.Desk, t *odd.Truth) { t.Minutes = t.Minutes[:3] }, false},
		{"a minute too many", func(d *odd.Desk, t *odd.Truth) { t.Minutes = append(t.Minutes, 7) }, false},
		{"an order too few", func(d *odd.Desk, t *odd.Truth) { t.Orders = t.Orders[:2] }, false},
		{"an order too many", func(d *odd.Desk, t *odd.Truth) { t.Orders = append(t.Orders, 5) }, false},
		{"nothing", func(d *odd.Desk, t *odd.Truth) { *t = odd.Truth{} }, false},
		{"a board that is not valid", func(d *odd.Desk, t *odd.Truth) { d.Board.Small = 0 }, false},
		{"a tape that is not valid", func(d *odd.Desk, t *odd.Truth) { d.Tape += " ?" }, false},
		{"a fee that is not valid", func(d *odd.Desk, t *odd.Truth) { d.Fee = 5 }, false},
		{"an order that is not valid", func(d *odd.Desk, t *odd.Truth) { d.Orders[1].Number = 0 }, false},
		{"a tape without a truth", func(d *odd.Desk, t *odd.Truth) { d.Board.Jump = 2 }, false},
	} {
		d, truth := theExample(), exampleTruth()
		x.change(&d, &truth)
		if got := odd.ProveTruth(d, truth); got != x.want {
			t.Errorf("ProveTruth, %s: %v", x.name, got)
		}
	}
}
