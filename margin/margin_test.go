package margin_test

import (
	"slices"
	"testing"

	"contango/api"
	"contango/margin"
)

// farthest and lowest are the ends of all ints.
const (
	farthest = 1<<63 - 1
	lowest   = -1 << 63
)

// to returns the range with these ends.
func to(low, high int) margin.Range { return margin.Range{Lo: low, Hi: high} }

// one returns the range of one number.
func one(n int) margin.Range { return to(n, n) }

// list returns the numbers as a list.
func list(numbers ...int) []int { return numbers }

// spans returns the ranges with these ends.
func spans(ends ...int) []margin.Range {
	var list []margin.Range
	for i := 0; i < len(ends); i += 2 {
		list = append(list, to(ends[i], ends[i+1]))
	}
	return list
}

// day returns a day with prices of these ends.
func day(rate margin.Range, ends ...int) margin.Day {
	return margin.Day{Prices: spans(ends...), Rate: rate}
}

// loan returns a loan.
func loan(money, percent int, shares ...int) margin.Loan {
	return margin.Loan{Money: money, Margin: percent, Shares: shares}
}

// theExample is the bank of the chapter's examples.
func theExample() margin.Bank {
	return margin.Bank{
		Stocks: 2,
		Days:   []margin.Day{day(one(10), 90, 110, 50, 50), day(to(0, 20), 80, 120, 40, 60)},
		Loans:  []margin.Loan{loan(10000, 20, 100, 60), loan(3000, 50, 0, 100)},
	}
}

// lends returns the bank with these loans.
func lends(b margin.Bank, loans ...margin.Loan) margin.Bank {
	b.Loans = loans
	return b
}

// known returns a bank with one loan, and one day with these prices.
func known(rate int, l margin.Loan, prices ...int) margin.Bank {
	d := margin.Day{Rate: one(rate)}
	for _, n := range prices {
		d.Prices = append(d.Prices, one(n))
	}
	return margin.Bank{Stocks: len(prices), Days: []margin.Day{d}, Loans: []margin.Loan{l}}
}

// quoted returns a truth of a bank of two stocks: for each day the prices, and the
// rate.
func quoted(days ...[3]int) margin.Truth {
	var t margin.Truth
	for _, d := range days {
		t.Prices = append(t.Prices, list(d[0], d[1]))
		t.Rates = append(t.Rates, d[2])
	}
	return t
}

// theTruth is the one of the chapter's examples.
func theTruth() margin.Truth { return quoted([3]int{100, 50, 10}, [3]int{90, 50, 20}) }

// cheap is the truth of the example in which the shares are worth least.
func cheap() margin.Truth { return quoted([3]int{90, 50, 10}, [3]int{80, 40, 20}) }

// atLeast returns the truth of all least prices and rates.
func atLeast(b margin.Bank) margin.Truth {
	var t margin.Truth
	for _, d := range b.Days {
		var l []int
		for _, x := range d.Prices {
			l = append(l, x.Lo)
		}
		t.Prices, t.Rates = append(t.Prices, l), append(t.Rates, d.Rate.Lo)
	}
	return t
}

func TestP9_1CheckBank(t *testing.T) {
	for _, x := range append(validChanges(), wrongChanges()...) {
		b := theExample()
		x.change(&b)
		if e := margin.CheckBank(b); e != x.e {
			t.Errorf("CheckBank, %s: %v; want %v", x.name, e, x.e)
		}
	}
}

func TestP9_1Play(t *testing.T) {
	three := margin.Bank{Stocks: 1, Days: []margin.Day{day(one(100), 10, 10), day(one(0), 12, 12), day(one(50), 8, 8)}, Loans: []margin.Loan{loan(1200, 0, 100)}}
	for _, x := range []struct {
		name         string
		b            margin.Bank
		t            margin.Truth
		debts, calls [][]int
	}{
		{"the example", theExample(), theTruth(), [][]int{{10010, 10000}, {3003, 3009}}, [][]int{{0, 30}, {0, 0}}},
		{"all is least", theExample(), quoted([3]int{90, 50, 10}, [3]int{80, 40, 0}), [][]int{{10000, 8666}, {3003, 2666}}, [][]int{{10, 1334}, {0, 337}}},
		{"all is greatest", theExample(), quoted([3]int{110, 50, 10}, [3]int{120, 60, 20}), [][]int{{10010, 10030}, {3003, 3009}}, [][]int{{0, 0}, {0, 0}}},
		{"no loans", lends(theExample()), theTruth(), nil, nil},
		{"nothing is lent", lends(theExample(), loan(0, 20, 100, 60)), cheap(), [][]int{{0, 0}}, [][]int{{0, 0}}},
		{"nothing behind it", lends(theExample(), loan(5000, 20, 0, 0)), cheap(), [][]int{{0, 0}}, [][]int{{5005, 0}}},
		{"interest is rounded down", known(19, loan(1000, 0, 100), 100), atLeast(known(19, loan(1000, 0, 100), 100)), [][]int{{1001}}, [][]int{{0}}},
		{"interest below a penny", known(100, loan(99, 0, 1), 1000), atLeast(known(100, loan(99, 0, 1), 1000)), [][]int{{99}}, [][]int{{0}}},
		{"interest of a penny", known(100, loan(100, 0, 1), 1000), atLeast(known(100, loan(100, 0, 1), 1000)), [][]int{{101}}, [][]int{{0}}},
		{"interest before the call", known(100, loan(1000, 0, 10), 100), atLeast(known(100, loan(1000, 0, 10), 100)), [][]int{{1000}}, [][]int{{10}}},
		{"the cap is rounded down", known(0, loan(100, 20, 1), 100), atLeast(known(0, loan(100, 20, 1), 100)), [][]int{{83}}, [][]int{{17}}},
		{"just the cap", known(0, loan(100, 20, 2), 60), atLeast(known(0, loan(100, 20, 2), 60)), [][]int{{100}}, [][]int{{0}}},
		{"a penny above the cap", known(0, loan(101, 20, 2), 60), atLeast(known(0, loan(101, 20, 2), 60)), [][]int{{100}}, [][]int{{1}}},
		{"the greatest margin", known(0, loan(101, 100, 2), 60), atLeast(known(0, loan(101, 100, 2), 60)), [][]int{{60}}, [][]int{{41}}},
		{"DOC.md's", known(0, loan(40, 0, 6), 5), atLeast(known(0, loan(40, 0, 6), 5)), [][]int{{30}}, [][]int{{10}}},
		{"what was called is not owed again", three, atLeast(three), [][]int{{1000, 1000, 800}}, [][]int{{212, 0, 205}}},
	} {
		debts, calls, e := margin.Play(x.b, x.t)
		if e != api.OK || !slices.EqualFunc(debts, x.debts, slices.Equal) || !slices.EqualFunc(calls, x.calls, slices.Equal) {
			t.Errorf("Play, %s: %v, %v, %v; want %v, %v", x.name, debts, calls, e, x.debts, x.calls)
		}
	}
}

// asked is a bank with one loan, and what is due of it.
type asked struct {
	name         string
	b            margin.Bank
	debts, calls []margin.Range
}

func allAsked() []asked {
	// The prices of the first day are low or high, those of the second one are known.
	before := margin.Bank{Stocks: 1, Days: []margin.Day{day(one(0), 8, 12), day(one(0), 9, 9)}, Loans: []margin.Loan{loan(1000, 0, 100)}}
	rates := margin.Bank{Stocks: 1, Days: []margin.Day{day(to(0, 100), 10, 10), day(to(0, 100), 10, 10)}, Loans: []margin.Loan{loan(900, 0, 100)}}
	most := margin.Bank{Stocks: 4, Days: slices.Repeat([]margin.Day{day(to(0, 100), 0, 1000, 0, 1000, 0, 1000, 0, 1000)}, 4), Loans: []margin.Loan{loan(100000, 100, 100, 100, 100, 100)}}
	return []asked{
		{"the example's first loan", lends(theExample(), theExample().Loans[0]), spans(10000, 10010, 8666, 10030), spans(0, 10, 0, 1364)},
		{"the example's second loan", lends(theExample(), theExample().Loans[1]), spans(3003, 3003, 2666, 3009), spans(0, 0, 0, 343)},
		{"surely called", lends(theExample(), loan(20000, 20, 100, 60)), spans(10000, 11666, 8666, 11689), spans(8354, 10020, 0, 3023)},
		{"nothing is lent", lends(theExample(), loan(0, 20, 100, 60)), spans(0, 0, 0, 0), spans(0, 0, 0, 0)},
		{"all is known", known(100, loan(1000, 0, 10), 100), spans(1000, 1000), spans(10, 10)},
		{"called on the first day, or the second one", before, spans(800, 1000, 800, 900), spans(0, 200, 0, 100)},
		{"rates alone", rates, spans(900, 909, 900, 918), spans(0, 0, 0, 0)},
		{"most of everything", most, spans(0, 101000, 0, 102010, 0, 103030, 0, 104060), spans(0, 101000, 0, 102010, 0, 103030, 0, 104060)},
	}
}

func TestP9_2Bounds(t *testing.T) {
	for _, x := range allAsked() {
		debts, calls, e := margin.Bounds(x.b, 0)
		if !slices.Equal(debts, x.debts) || !slices.Equal(calls, x.calls) || e != api.OK {
			t.Errorf("Bounds, %s: %v, %v, %v; want %v, %v", x.name, debts, calls, e, x.debts, x.calls)
		}
	}
	if debts, calls, e := margin.Bounds(theExample(), 1); !slices.Equal(debts, spans(3003, 3003, 2666, 3009)) || !slices.Equal(calls, spans(0, 0, 0, 343)) || e != api.OK {
		t.Errorf("Bounds of the second of two loans: %v, %v, %v", debts, calls, e)
	}
}

func TestP9_2Total(t *testing.T) {
	for _, x := range allAsked() {
		if got, e := margin.Total(x.b); !slices.Equal(got, x.calls) || e != api.OK {
			t.Errorf("Total of one loan, %s: %v, %v; want %v", x.name, got, e, x.calls)
		}
		x.b.Loans = slices.Repeat(x.b.Loans, 4)
		for i := range x.calls {
			x.calls[i] = to(4*x.calls[i].Lo, 4*x.calls[i].Hi)
		}
		if got, e := margin.Total(x.b); !slices.Equal(got, x.calls) || e != api.OK {
			t.Errorf("Total of four loans, %s: %v, %v; want %v", x.name, got, e, x.calls)
		}
	}
	for _, x := range []struct {
		b    margin.Bank
		want []margin.Range
	}{
		{theExample(), spans(0, 10, 0, 1707)},
		{lends(theExample(), loan(20000, 20, 100, 60), theExample().Loans[1]), spans(8354, 10020, 0, 3366)},
		{lends(theExample()), spans(0, 0, 0, 0)},
	} {
		if got, e := margin.Total(x.b); !slices.Equal(got, x.want) || e != api.OK {
			t.Errorf("Total of %v: %v, %v; want %v", x.b, got, e, x.want)
		}
	}
}

func TestP9_3Surely(t *testing.T) {
	sure := lends(theExample(), loan(20000, 20, 100, 60), loan(0, 0, 0, 0), loan(3000, 50, 0, 100), loan(1, 0, 0, 0))
	edge := margin.Bank{Stocks: 1, Days: []margin.Day{day(one(0), 9, 10)}, Loans: []margin.Loan{loan(90, 0, 10), loan(91, 0, 10), loan(100, 0, 10), loan(101, 0, 10)}}
	for _, x := range []struct {
		name      string
		b         margin.Bank
		day       int
		sure, may []int
	}{
		{"the example's first day", theExample(), 0, nil, list(0)},
		{"the example's second day", theExample(), 1, nil, list(0, 1)},
		{"some surely", sure, 0, list(0, 3), list(0, 3)},
		{"none is called twice for the same", sure, 1, nil, list(0, 2)},
		{"at the ends of the cap", edge, 0, list(3), list(1, 2, 3)},
		{"no loans", lends(theExample()), 1, nil, nil},
	} {
		got, may, e := margin.Surely(x.b, x.day)
		if !slices.Equal(got, x.sure) || !slices.Equal(may, x.may) || e != api.OK {
			t.Errorf("Surely, %s: %v, %v, %v; want %v, %v", x.name, got, may, e, x.sure, x.may)
		}
	}
}

func TestP9_4Sell(t *testing.T) {
	example := func(money int) margin.Bank {
		return lends(theExample(), loan(money, 20, 100, 60), theExample().Loans[1])
	}
	last := quoted([3]int{90, 50, 10}, [3]int{80, 40, 0})
	for _, x := range []struct {
		name      string
		b         margin.Bank
		t         margin.Truth
		loan, day int
		many      int
		e         api.Errno
	}{
		{"the example", theExample(), theTruth(), 0, 1, 2, api.OK},
		{"the example's first day", theExample(), cheap(), 0, 0, 1, api.OK},
		{"all of the dearest stock", theExample(), last, 0, 1, 100, api.OK},
		{"more than of the dearest stock", theExample(), quoted([3]int{110, 50, 10}, [3]int{80, 40, 20}), 0, 1, 105, api.OK},
		{"not called", theExample(), theTruth(), 0, 0, 0, api.ErrNone},
		{"another one is called", theExample(), theTruth(), 1, 1, 0, api.ErrNone},
		{"nothing is lent", example(0), cheap(), 0, 1, 0, api.ErrNone},
		{"worth less than what is owed", example(13000), cheap(), 0, 0, 0, api.ErrShort},
		{"another loan", theExample(), cheap(), 1, 1, 26, api.OK},
		{"worth what is owed", known(0, loan(100, 20, 10), 10), atLeast(known(0, loan(100, 20, 10), 10)), 0, 0, 10, api.OK},
		{"worth a penny less", known(0, loan(101, 20, 10), 10), atLeast(known(0, loan(101, 20, 10), 10)), 0, 0, 0, api.ErrShort},
		{"worth a little more", known(0, loan(98, 20, 10), 10), atLeast(known(0, loan(98, 20, 10), 10)), 0, 0, 9, api.OK},
		{"without a margin all must be worth enough", known(0, loan(101, 0, 10), 10), atLeast(known(0, loan(101, 0, 10), 10)), 0, 0, 0, api.ErrShort},
		{"without a margin all is worth enough", known(0, loan(100, 0, 10), 10), atLeast(known(0, loan(100, 0, 10), 10)), 0, 0, 0, api.ErrNone},
		{"worth nothing", known(100, loan(500, 50, 10), 0), atLeast(known(100, loan(500, 50, 10), 0)), 0, 0, 0, api.ErrShort},
		{"no shares", known(100, loan(500, 50, 0), 9), atLeast(known(100, loan(500, 50, 0), 9)), 0, 0, 0, api.ErrShort},
		{"the greatest margin", known(0, loan(600, 100, 10), 100), atLeast(known(0, loan(600, 100, 10), 100)), 0, 0, 2, api.OK},
		{"nothing is owed any more", known(0, loan(10, 100, 1), 19), atLeast(known(0, loan(10, 100, 1), 19)), 0, 0, 1, api.OK},
		{"the dearest stock is not the first", known(0, loan(620, 50, 10, 10, 0, 10), 20, 40, 90, 30), atLeast(known(0, loan(620, 50, 10, 10, 0, 10), 20, 40, 90, 30)), 0, 0, 2, api.OK},
		{"equal prices", known(0, loan(400, 50, 3, 3, 9), 40, 40, 30), atLeast(known(0, loan(400, 50, 3, 3, 9), 40, 40, 30)), 0, 0, 5, api.OK},
	} {
		sold, e := margin.Sell(x.b, x.t, x.loan, x.day)
		if e != x.e || total(sold) != x.many || e != api.OK && len(sold) > 0 {
			t.Errorf("Sell, %s: %v, %v; want %d, %v", x.name, sold, e, x.many, x.e)
		}
		if margin.ProveSale(x.b, x.t, x.loan, x.day, sold, x.many) != (e == api.OK) || margin.ProveSale(x.b, x.t, x.loan, x.day, sold, x.many-1) {
			t.Errorf("ProveSale, %s: %v", x.name, sold)
		}
	}
	if sold, e := margin.Sell(theExample(), theTruth(), 0, 1); !slices.Equal(sold, list(2, 0)) || e != api.OK {
		t.Errorf("Sell of the example: %v, %v", sold, e)
	}
}

func TestP9_4ProveSale(t *testing.T) {
	// At 90 and 50 pence a sale of 180 pence is enough.
	for _, x := range []struct {
		name   string
		shares []int
		most   int
		want   bool
	}{
		{"the fewest", list(2, 0), 2, true},
		{"more may be sold", list(2, 0), 3, true},
		{"any number may be sold", list(2, 0), farthest, true},
		{"fewer may be sold", list(2, 0), 1, false},
		{"none may be sold", list(2, 0), 0, false},
		{"a number below 0", list(2, 0), lowest, false},
		{"of both stocks", list(1, 2), 3, true},
		{"one too few of both", list(1, 1), 3, false},
		{"of the other stock", list(0, 4), 4, true},
		{"too few of the other stock", list(0, 3), 4, false},
		{"nothing", list(0, 0), 160, false},
		{"all", list(100, 60), 160, true},
		{"one of all too many", list(100, 60), 159, false},
		{"more than there is", list(101, 0), 160, false},
		{"more than there is of the other stock", list(2, 61), 160, false},
		{"below 0", list(3, -1), 160, false},
		{"far below 0", list(lowest, 3), 160, false},
		{"far too many", list(farthest, farthest), farthest, false},
		{"no list", nil, 160, false},
		{"too short", list(2), 160, false},
		{"too long", list(2, 0, 0), 160, false},
		{"far too long", make([]int, 1<<20), 160, false},
	} {
		if got := margin.ProveSale(theExample(), theTruth(), 0, 1, x.shares, x.most); got != x.want {
			t.Errorf("ProveSale, %s: %v", x.name, got)
		}
	}
}

// TestP9_4NoSale: a bank, a truth, a loan or a day that is not valid, or not called.
func TestP9_4NoSale(t *testing.T) {
	proves := func(b margin.Bank, truth margin.Truth, loan, day int) bool {
		return margin.ProveSale(b, truth, loan, day, list(100, 60), 160)
	}
	if !proves(theExample(), theTruth(), 0, 1) {
		t.Error("ProveSale of the example")
	}
	for _, x := range []struct {
		name      string
		t         margin.Truth
		loan, day int
	}{
		{"not called on the first day", theTruth(), 0, 0},
		{"no such loan", theTruth(), 2, 1},
		{"a loan below 0", theTruth(), -1, 1},
		{"a loan far away", theTruth(), farthest, 1},
		{"no such day", theTruth(), 0, 2},
		{"a day below 0", theTruth(), 0, -1},
		{"a day far away", theTruth(), 0, lowest},
		{"no truth", margin.Truth{}, 0, 1},
		{"a truth of another bank", quoted([3]int{111, 50, 10}, [3]int{90, 50, 20}), 0, 1},
	} {
		if proves(theExample(), x.t, x.loan, x.day) {
			t.Errorf("ProveSale, %s", x.name)
		}
	}
	if margin.ProveSale(theExample(), theTruth(), 1, 1, list(0, 100), 160) {
		t.Error("ProveSale of a loan that is not called")
	}
	if !margin.ProveSale(theExample(), cheap(), 1, 1, list(0, 26), 26) || margin.ProveSale(theExample(), cheap(), 1, 1, list(0, 25), 26) {
		t.Error("ProveSale of the second loan")
	}
}

func TestP9_5Parts(t *testing.T) {
	for _, x := range []struct {
		money []int
		sum   int
		want  []int
		e     api.Errno
	}{
		{list(4, 2, 2), 7, list(3, 2, 2), api.OK},
		{list(2, 4, 2), 7, list(2, 3, 2), api.OK},
		{list(1, 1, 1), 0, list(0, 0, 0), api.OK},
		{list(1, 1, 1), 1, list(1, 0, 0), api.OK},
		{list(1, 1, 1), 2, list(1, 1, 0), api.OK},
		{list(1, 1, 1), 3, list(1, 1, 1), api.OK},
		{list(1, 1, 1, 1), 3, list(1, 1, 1, 0), api.OK},
		{list(1, 2, 4), 3, list(0, 1, 2), api.OK},
		{list(0, 3, 7), 5, list(0, 2, 3), api.OK},
		{list(3, 7, 0), 5, list(2, 3, 0), api.OK},
		{list(7, 3, 0), 5, list(4, 1, 0), api.OK},
		{list(2, 3, 5), 1, list(0, 0, 1), api.OK},
		{list(5, 3, 2), 9, list(4, 3, 2), api.OK},
		{list(0, 0, 0, 1), 1, list(0, 0, 0, 1), api.OK},
		{list(0, 0, 0, 1), 0, list(0, 0, 0, 0), api.OK},
		{list(9), 4, list(4), api.OK},
		{list(100000), 100000, list(100000), api.OK},
		{list(100000, 100000, 100000, 100000), 399999, list(100000, 100000, 100000, 99999), api.OK},
		{list(100000, 100000, 100000, 99999), 1, list(1, 0, 0, 0), api.OK},
		{list(99999, 100000, 100000, 100000), 1, list(0, 1, 0, 0), api.OK},
		{list(1, 1, 1), 100, nil, api.ErrRange},
		{list(1, 1, 1), 4, nil, api.ErrRange},
		{list(1, 1, 1), -1, nil, api.ErrRange},
		{list(1, 1, 1), farthest, nil, api.ErrRange},
		{list(1, 1, 1), lowest, nil, api.ErrRange},
		{nil, 0, nil, api.ErrArg},
		{list(), 1, nil, api.ErrArg},
		{list(0, 0), 0, nil, api.ErrArg},
		{list(0, 0), -1, nil, api.ErrArg},
		{list(1, -1), 0, nil, api.ErrArg},
		{list(-1, 5), 9, nil, api.ErrArg},
		{list(1, 100001), 5, nil, api.ErrArg},
		{list(farthest, 1), 5, nil, api.ErrArg},
		{list(lowest, lowest, 1), 5, nil, api.ErrArg},
		{list(1, 1, 1, 1, 1), 2, nil, api.ErrLimit},
		{list(1, 1, 1, 1, -1), -1, nil, api.ErrLimit},
		{list(0, 0, 0, 0, 0), 9, nil, api.ErrLimit},
		{make([]int, 1<<20), 2, nil, api.ErrLimit},
	} {
		if got, e := margin.Parts(x.money, x.sum); !slices.Equal(got, x.want) || e != x.e {
			t.Errorf("Parts of %d for %d amounts: %v, %v; want %v, %v", x.sum, len(x.money), got, e, x.want, x.e)
		}
	}
}

// said returns records, each of a loan, a day, and pence.
func said(records ...[3]int) []margin.Record {
	var list []margin.Record
	for _, r := range records {
		list = append(list, margin.Record{Loan: r[0], Day: r[1], Pence: r[2]})
	}
	return list
}

func TestP9_6Odd(t *testing.T) {
	for _, x := range []struct {
		name string
		l    []margin.Record
		want []int
		e    api.Errno
	}{
		{"the example", said([3]int{0, 1, 30}, [3]int{0, 1, 2000}), list(1), api.OK},
		{"no records", nil, nil, api.OK},
		{"the ends", said([3]int{0, 1, 0}, [3]int{0, 1, 1364}, [3]int{0, 0, 10}, [3]int{1, 1, 343}), nil, api.OK},
		{"beyond the ends", said([3]int{0, 1, -1}, [3]int{0, 1, 1365}, [3]int{0, 0, 11}, [3]int{1, 1, 344}), list(0, 1, 2, 3), api.OK},
		{"another day, and another loan", said([3]int{0, 0, 30}, [3]int{1, 1, 30}, [3]int{1, 0, 30}, [3]int{1, 0, 0}), list(0, 2), api.OK},
		{"far away", said([3]int{0, 0, farthest}, [3]int{0, 1, lowest}), list(0, 1), api.OK},
		{"the same twice", said([3]int{1, 0, 1}, [3]int{1, 0, 0}, [3]int{1, 0, 1}), list(0, 2), api.OK},
		{"no such loan", said([3]int{2, 0, 0}), nil, api.ErrRange},
		{"a loan below 0", said([3]int{0, 1, 2000}, [3]int{-1, 0, 0}), nil, api.ErrRange},
		{"a loan far away", said([3]int{farthest, 0, 0}), nil, api.ErrRange},
		{"no such day", said([3]int{1, 2, 0}, [3]int{0, 0, 0}), nil, api.ErrRange},
		{"a day below 0", said([3]int{0, 1, 2000}, [3]int{1, -1, 0}), nil, api.ErrRange},
		{"a day far away", said([3]int{1, lowest, 0}), nil, api.ErrRange},
	} {
		if got, e := margin.Odd(theExample(), x.l); !slices.Equal(got, x.want) || e != x.e {
			t.Errorf("Odd, %s: %v, %v; want %v, %v", x.name, got, e, x.want, x.e)
		}
	}
	sure := lends(theExample(), loan(20000, 20, 100, 60))
	if got, e := margin.Odd(sure, said([3]int{0, 0, 8353}, [3]int{0, 0, 8354}, [3]int{0, 0, 10020}, [3]int{0, 0, 10021}, [3]int{0, 0, 0})); !slices.Equal(got, list(0, 3, 4)) || e != api.OK {
		t.Errorf("Odd of a loan that is surely called: %v, %v", got, e)
	}
	if got, e := margin.Odd(theExample(), slices.Repeat(said([3]int{0, 1, 2000}), 1<<16)); len(got) != 1<<16 || got[1<<15] != 1<<15 || e != api.OK {
		t.Errorf("Odd of many records: %d, %v", len(got), e)
	}
	if got, e := margin.Odd(lends(theExample()), nil); len(got) > 0 || e != api.OK {
		t.Errorf("Odd of no loans: %v, %v", got, e)
	}
}
