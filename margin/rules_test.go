package margin_test

import (
	"math/rand"
	"reflect"
	"slices"
	"testing"

	"contango/api"
	"contango/margin"
)

// change is one of the bank of the example, after which it has the error e.
type change struct {
	name   string
	change func(b *margin.Bank)
	e      api.Errno
}

// validChanges are those after which the bank is still valid.
func validChanges() []change {
	return []change{
		{"nothing", func(b *margin.Bank) {}, api.OK},
		{"one stock", func(b *margin.Bank) { *b = known(0, loan(1, 0, 1), 1) }, api.OK},
		{"most stocks", func(b *margin.Bank) { *b = known(0, loan(1, 0, 1, 2, 3, 4), 1, 2, 3, 4) }, api.OK},
		{"one day", func(b *margin.Bank) { b.Days = b.Days[:1] }, api.OK},
		{"most days", func(b *margin.Bank) { b.Days = slices.Repeat(b.Days, 2) }, api.OK},
		{"no loans", func(b *margin.Bank) { b.Loans = nil }, api.OK},
		{"most loans", func(b *margin.Bank) { b.Loans = slices.Repeat(b.Loans, 2) }, api.OK},
		{"the widest prices", func(b *margin.Bank) { b.Days[0].Prices[1] = to(0, 1000) }, api.OK},
		{"the least price", func(b *margin.Bank) { b.Days[1].Prices[0] = one(0) }, api.OK},
		{"the greatest price", func(b *margin.Bank) { b.Days[1].Prices[0] = one(1000) }, api.OK},
		{"the widest rates", func(b *margin.Bank) { b.Days[0].Rate = to(0, 100) }, api.OK},
		{"the greatest rate", func(b *margin.Bank) { b.Days[1].Rate = one(100) }, api.OK},
		{"the least money", func(b *margin.Bank) { b.Loans[0].Money = 0 }, api.OK},
		{"the greatest money", func(b *margin.Bank) { b.Loans[0].Money = 100000 }, api.OK},
		{"the least margin", func(b *margin.Bank) { b.Loans[1].Margin = 0 }, api.OK},
		{"the greatest margin", func(b *margin.Bank) { b.Loans[1].Margin = 100 }, api.OK},
		{"no shares", func(b *margin.Bank) { b.Loans[0].Shares = list(0, 0) }, api.OK},
		{"most shares", func(b *margin.Bank) { b.Loans[1].Shares = list(100, 100) }, api.OK},
	}
}

// tooMany are those after which it has more of something than there may be.
func tooMany() []change {
	return []change{
		{"too many stocks", func(b *margin.Bank) { b.Stocks = 5 }, api.ErrLimit},
		{"far too many stocks", func(b *margin.Bank) { b.Stocks = farthest }, api.ErrLimit},
		{"too many stocks, all right otherwise", func(b *margin.Bank) { *b = known(0, loan(1, 0, 1, 2, 3, 4, 5), 1, 2, 3, 4, 5) }, api.ErrLimit},
		{"too many days", func(b *margin.Bank) { b.Days = slices.Repeat(theExample().Days[:1], 5) }, api.ErrLimit},
		{"too many days, not valid", func(b *margin.Bank) { b.Days = make([]margin.Day, 5) }, api.ErrLimit},
		{"too many loans", func(b *margin.Bank) { b.Loans = slices.Repeat([]margin.Loan{loan(1, 0, 1, 1)}, 5) }, api.ErrLimit},
		{"too many loans, not valid", func(b *margin.Bank) { b.Loans = make([]margin.Loan, 5) }, api.ErrLimit},
	}
}

// wrongDays are those after which a day is not valid.
func wrongDays() []change {
	return []change{
		{"no prices", func(b *margin.Bank) { b.Days[0].Prices = nil }, api.ErrArg},
		{"a price too few", func(b *margin.Bank) { b.Days[1].Prices = spans(1, 2) }, api.ErrArg},
		{"a price too many", func(b *margin.Bank) { b.Days[1].Prices = spans(1, 2, 1, 2, 1, 2) }, api.ErrArg},
		{"far more prices than there are stocks", func(b *margin.Bank) { b.Days[1].Prices = make([]margin.Range, 9) }, api.ErrArg},
		{"prices that end before they begin", func(b *margin.Bank) { b.Days[0].Prices[0] = to(2, 1) }, api.ErrArg},
		{"a price below 0", func(b *margin.Bank) { b.Days[0].Prices[1] = to(-1, 1) }, api.ErrArg},
		{"prices below 0", func(b *margin.Bank) { b.Days[0].Prices[1] = one(-1) }, api.ErrArg},
		{"a price too great", func(b *margin.Bank) { b.Days[1].Prices[1] = to(0, 1001) }, api.ErrArg},
		{"prices too great", func(b *margin.Bank) { b.Days[1].Prices[1] = one(1001) }, api.ErrArg},
		{"all prices that there are", func(b *margin.Bank) { b.Days[1].Prices[0] = to(lowest, farthest) }, api.ErrArg},
		{"rates that end before they begin", func(b *margin.Bank) { b.Days[0].Rate = to(2, 1) }, api.ErrArg},
		{"a rate below 0", func(b *margin.Bank) { b.Days[1].Rate = to(-1, 1) }, api.ErrArg},
		{"rates below 0", func(b *margin.Bank) { b.Days[1].Rate = one(-1) }, api.ErrArg},
		{"a rate too great", func(b *margin.Bank) { b.Days[0].Rate = to(0, 101) }, api.ErrArg},
		{"rates too great", func(b *margin.Bank) { b.Days[1].Rate = one(101) }, api.ErrArg},
		{"all rates that there are", func(b *margin.Bank) { b.Days[1].Rate = to(lowest, farthest) }, api.ErrArg},
	}
}

// wrongChanges are all those after which the bank is not valid.
func wrongChanges() []change {
	return slices.Concat(tooMany(), wrongDays(), []change{
		{"no bank", func(b *margin.Bank) { *b = margin.Bank{} }, api.ErrArg},
		{"no stocks", func(b *margin.Bank) { b.Stocks = 0 }, api.ErrArg},
		{"no stocks, all right otherwise", func(b *margin.Bank) { *b = known(0, loan(1, 0)) }, api.ErrArg},
		{"stocks below 0", func(b *margin.Bank) { b.Stocks = lowest }, api.ErrArg},
		{"a stock too few", func(b *margin.Bank) { b.Stocks = 1 }, api.ErrArg},
		{"a stock too many", func(b *margin.Bank) { b.Stocks = 3 }, api.ErrArg},
		{"no days", func(b *margin.Bank) { b.Days = nil }, api.ErrArg},
		{"a day of nothing", func(b *margin.Bank) { b.Days = append(b.Days, margin.Day{}) }, api.ErrArg},
		{"money below 0", func(b *margin.Bank) { b.Loans[0].Money = -1 }, api.ErrArg},
		{"money far below 0", func(b *margin.Bank) { b.Loans[1].Money = lowest }, api.ErrArg},
		{"too much money", func(b *margin.Bank) { b.Loans[1].Money = 100001 }, api.ErrArg},
		{"far too much money", func(b *margin.Bank) { b.Loans[0].Money = farthest }, api.ErrArg},
		{"a margin below 0", func(b *margin.Bank) { b.Loans[0].Margin = -1 }, api.ErrArg},
		{"a margin of -100", func(b *margin.Bank) { b.Loans[0].Margin = -100 }, api.ErrArg},
		{"a margin too great", func(b *margin.Bank) { b.Loans[1].Margin = 101 }, api.ErrArg},
		{"a margin far too great", func(b *margin.Bank) { b.Loans[1].Margin = farthest }, api.ErrArg},
		{"nothing of shares", func(b *margin.Bank) { b.Loans[0].Shares = nil }, api.ErrArg},
		{"shares of a stock too few", func(b *margin.Bank) { b.Loans[1].Shares = list(1) }, api.ErrArg},
		{"shares of a stock too many", func(b *margin.Bank) { b.Loans[1].Shares = list(1, 1, 0) }, api.ErrArg},
		{"shares below 0", func(b *margin.Bank) { b.Loans[0].Shares[1] = -1 }, api.ErrArg},
		{"shares far below 0", func(b *margin.Bank) { b.Loans[0].Shares[0] = lowest }, api.ErrArg},
		{"too many shares", func(b *margin.Bank) { b.Loans[1].Shares[1] = 101 }, api.ErrArg},
		{"far too many shares", func(b *margin.Bank) { b.Loans[1].Shares[0] = farthest }, api.ErrArg},
		{"a loan of nothing", func(b *margin.Bank) { b.Loans = append(b.Loans, margin.Loan{}) }, api.ErrArg},
	})
}

// args are all that a call can have beside the bank.
type args struct {
	t         margin.Truth
	loan, day int
	l         []margin.Record
}

// result is what a call returned, and its error.
type result struct {
	call   string
	values []any
	e      api.Errno
}

// callAll calls every function that has a bank, and an error.
func callAll(b margin.Bank, a args) []result {
	debts, calls, e1 := margin.Play(b, a.t)
	x, y, e2 := margin.Bounds(b, a.loan)
	sums, e3 := margin.Total(b)
	sure, may, e4 := margin.Surely(b, a.day)
	sold, e5 := margin.Sell(b, a.t, a.loan, a.day)
	odd, e6 := margin.Odd(b, a.l)
	return []result{
		{"CheckBank", nil, margin.CheckBank(b)},
		{"Play", []any{debts, calls}, e1}, {"Bounds", []any{x, y}, e2}, {"Total", []any{sums}, e3},
		{"Surely", []any{sure, may}, e4}, {"Sell", []any{sold}, e5}, {"Odd", []any{odd}, e6},
	}
}

// isZero reports whether each result is the zero value of its type, or an empty list.
func (r result) isZero() bool {
	return !slices.ContainsFunc(r.values, func(x any) bool { return reflect.ValueOf(x).Len() > 0 })
}

// TestR1Bank: a bank that is not valid has its error in each call, before those of
// all else; no other result; and no proof.
func TestR1Bank(t *testing.T) {
	for _, x := range wrongChanges() {
		b := theExample()
		x.change(&b)
		for _, a := range []args{
			{t: theTruth(), day: 1, l: said([3]int{0, 1, 30})},
			{t: theTruth()},
			{loan: 9, day: 9, l: said([3]int{9, 9, 9})},
			{t: atLeast(b), loan: -1, day: -1, l: said([3]int{-1, -1, -1})},
		} {
			for _, got := range callAll(b, a) {
				if got.e != x.e || !got.isZero() {
					t.Errorf("%s, %s: %v, %v; want %v", got.call, x.name, got.values, got.e, x.e)
				}
			}
			if margin.ProveSale(b, a.t, a.loan, a.day, list(100, 60), farthest) || margin.ProveSale(b, atLeast(b), 0, 0, nil, 0) {
				t.Errorf("ProveSale, %s", x.name)
			}
		}
	}
}

// TestR1LimitFirst: too many of anything counts before all else that is wrong.
func TestR1LimitFirst(t *testing.T) {
	for _, x := range tooMany() {
		for _, y := range wrongChanges() {
			b := theExample()
			y.change(&b)
			x.change(&b)
			if e := margin.CheckBank(b); e != api.ErrLimit {
				t.Errorf("CheckBank, %s and %s: %v", y.name, x.name, e)
			}
		}
	}
}

// due are the errors of calls; of all others it is OK.
type due map[string]api.Errno

// with returns the errors, and these, too.
func (d due) with(e api.Errno, calls ...string) due {
	more := due{}
	for call, e := range d {
		more[call] = e
	}
	for _, call := range calls {
		more[call] = e
	}
	return more
}

// TestR1Order: what each call asks for beside the bank, in the order of the table.
func TestR1Order(t *testing.T) {
	noTruth := due{}.with(api.ErrRange, "Play", "Sell")
	noLoan := due{}.with(api.ErrRange, "Bounds", "Sell")
	noDay := due{}.with(api.ErrRange, "Surely", "Sell")
	notCalled := due{"Sell": api.ErrNone}
	noSale := due{"Sell": api.ErrShort}
	odd := due{"Odd": api.ErrRange}
	most := theExample()
	most.Loans[0].Money = 13000
	for _, x := range []struct {
		name string
		b    margin.Bank
		a    args
		want due
	}{
		{"nothing", theExample(), args{t: theTruth(), day: 1}, nil},
		{"not called", theExample(), args{t: theTruth()}, notCalled},
		{"no sale", most, args{t: cheap()}, noSale},
		{"no such loan", most, args{t: cheap(), loan: 2}, noLoan},
		{"a loan below 0", most, args{t: cheap(), loan: -1}, noLoan},
		{"a loan far away", most, args{t: cheap(), loan: lowest}, noLoan},
		{"no such day", most, args{t: cheap(), day: 2}, noDay},
		{"a day below 0", most, args{t: cheap(), day: -1}, noDay},
		{"a day far away", most, args{t: cheap(), day: farthest}, noDay},
		{"neither", theExample(), args{t: cheap(), loan: 2, day: 2}, noDay.with(api.ErrRange, "Bounds")},
		{"no loans", lends(theExample()), args{t: cheap(), day: 1}, noLoan},
		{"no truth", theExample(), args{day: 1}, noTruth},
		{"no truth, and not called", theExample(), args{}, noTruth},
		{"no truth, and no sale", most, args{}, noTruth},
		{"no truth, and no such loan", theExample(), args{loan: 2}, noTruth.with(api.ErrRange, "Bounds")},
		{"no truth, and no such day", theExample(), args{day: 2}, noTruth.with(api.ErrRange, "Surely")},
		{"a record of no such loan", theExample(), args{t: theTruth(), day: 1, l: said([3]int{0, 1, 2000}, [3]int{2, 0, 0})}, odd},
		{"a record of no such day", theExample(), args{t: theTruth(), day: 1, l: said([3]int{0, 2, 0}, [3]int{0, 0, 0})}, odd},
		{"a record of no loans", lends(theExample()), args{t: theTruth(), day: 1, l: said([3]int{0, 0, 0})}, noLoan.with(api.ErrRange, "Odd")},
		{"all", theExample(), args{loan: 2, day: 2, l: said([3]int{2, 2, 2})}, noTruth.with(api.ErrRange, "Bounds", "Surely", "Odd")},
	} {
		for _, got := range callAll(x.b, x.a) {
			if got.e != x.want[got.call] || got.e != api.OK && !got.isZero() {
				t.Errorf("%s, %s: %v, %v; want %v", got.call, x.name, got.values, got.e, x.want[got.call])
			}
		}
	}
}

// wrongTruths are none of the example.
func wrongTruths() map[string]margin.Truth {
	right := theTruth()
	return map[string]margin.Truth{
		"nothing":                   {},
		"no rates":                  {Prices: right.Prices},
		"no prices":                 {Rates: right.Rates},
		"a day too few":             quoted([3]int{100, 50, 10}),
		"a day too many":            quoted([3]int{100, 50, 10}, [3]int{90, 50, 20}, [3]int{90, 50, 20}),
		"prices of a day too few":   {Prices: right.Prices[:1], Rates: right.Rates},
		"prices of a day too many":  {Prices: append(right.Prices, right.Prices[1]), Rates: right.Rates},
		"a rate too few":            {Prices: right.Prices, Rates: list(10)},
		"a rate too many":           {Prices: right.Prices, Rates: list(10, 20, 20)},
		"no prices of a day":        {Prices: [][]int{nil, {90, 50}}, Rates: right.Rates},
		"a price too few":           {Prices: [][]int{{100, 50}, {90}}, Rates: right.Rates},
		"a price too many":          {Prices: [][]int{{100, 50}, {90, 50, 1}}, Rates: right.Rates},
		"far too many prices":       {Prices: [][]int{make([]int, 99), {90, 50}}, Rates: right.Rates},
		"a price below its range":   quoted([3]int{89, 50, 10}, [3]int{90, 50, 20}),
		"a price above its range":   quoted([3]int{111, 50, 10}, [3]int{90, 50, 20}),
		"another price below it":    quoted([3]int{100, 50, 10}, [3]int{90, 39, 20}),
		"another price above it":    quoted([3]int{100, 50, 10}, [3]int{90, 61, 20}),
		"a price that is not known": quoted([3]int{100, 51, 10}, [3]int{90, 50, 20}),
		"a price far away":          quoted([3]int{100, 50, 10}, [3]int{farthest, 50, 20}),
		"a price far below 0":       quoted([3]int{100, 50, 10}, [3]int{90, lowest, 20}),
		"a rate below its range":    quoted([3]int{100, 50, 9}, [3]int{90, 50, 20}),
		"a rate above its range":    quoted([3]int{100, 50, 11}, [3]int{90, 50, 20}),
		"another rate above it":     quoted([3]int{100, 50, 10}, [3]int{90, 50, 21}),
		"another rate below it":     quoted([3]int{100, 50, 10}, [3]int{90, 50, -1}),
		"a rate far away":           quoted([3]int{100, 50, farthest}, [3]int{90, 50, 20}),
		"the days in another order": quoted([3]int{90, 50, 20}, [3]int{100, 50, 10}),
		"the stocks in another one": quoted([3]int{50, 100, 10}, [3]int{50, 90, 20}),
	}
}

func TestR1Truth(t *testing.T) {
	for _, truth := range []margin.Truth{theTruth(), cheap(), quoted([3]int{90, 50, 10}, [3]int{80, 40, 0}), quoted([3]int{110, 50, 10}, [3]int{120, 60, 20})} {
		if _, _, e := margin.Play(theExample(), truth); e != api.OK {
			t.Errorf("Play of %v: %v", truth, e)
		}
	}
	for name, truth := range wrongTruths() {
		for _, at := range [][2]int{{0, 1}, {0, 0}, {2, 2}} {
			debts, calls, e := margin.Play(theExample(), truth)
			sold, f := margin.Sell(theExample(), truth, at[0], at[1])
			if debts != nil || calls != nil || sold != nil || e != api.ErrRange || f != api.ErrRange {
				t.Errorf("%s: Play: %v, %v, %v; Sell: %v, %v", name, debts, calls, e, sold, f)
			}
			if margin.ProveSale(theExample(), truth, at[0], at[1], list(100, 60), 160) {
				t.Errorf("ProveSale, %s", name)
			}
		}
	}
}

// TestR3Empty: nil and a list without elements are the same.
func TestR3Empty(t *testing.T) {
	for _, loans := range [][]margin.Loan{nil, {}} {
		for _, records := range [][]margin.Record{nil, {}} {
			for _, got := range callAll(lends(theExample(), loans...), args{t: theTruth(), l: records}) {
				want := map[string]api.Errno{"Bounds": api.ErrRange, "Sell": api.ErrRange}[got.call]
				isOfSums := got.call == "Total" && slices.Equal(got.values[0].([]margin.Range), spans(0, 0, 0, 0))
				if got.e != want || !isOfSums && !got.isZero() {
					t.Errorf("%s of no loans: %v, %v", got.call, got.values, got.e)
				}
			}
		}
	}
	for _, e := range []api.Errno{
		margin.CheckBank(margin.Bank{Stocks: 1, Days: []margin.Day{}}),
		margin.CheckBank(margin.Bank{Stocks: 1, Days: []margin.Day{{Prices: []margin.Range{}}}}),
	} {
		if e != api.ErrArg {
			t.Errorf("CheckBank with an empty list: %v", e)
		}
	}
	if _, _, e := margin.Play(theExample(), margin.Truth{Prices: [][]int{}, Rates: []int{}}); e != api.ErrRange {
		t.Errorf("Play of an empty truth: %v", e)
	}
	if _, e := margin.Parts([]int{}, 0); e != api.ErrArg {
		t.Errorf("Parts of no amounts: %v", e)
	}
	if margin.ProveSale(theExample(), theTruth(), 0, 1, []int{}, 9) {
		t.Error("ProveSale of an empty list")
	}
}

// fill writes to all memory of a list, and beyond its end.
func fill(l []int) {
	l = l[:cap(l)]
	for i := range l {
		l[i] = -7
	}
}

// parts returns the lists that a result has.
func (r result) parts() (lists [][]int, ranges [][]margin.Range) {
	for _, x := range r.values {
		switch l := x.(type) {
		case []int:
			lists = append(lists, l)
		case [][]int:
			lists = append(lists, l...)
		case []margin.Range:
			ranges = append(ranges, l)
		}
	}
	return lists, ranges
}

// TestR4Memory: arguments are not written to, results share no memory.
func TestR4Memory(t *testing.T) {
	r := rand.New(rand.NewSource(4))
	for range 300 {
		b := someBank(r, 200)
		a := args{t: someTruth(r, b), loan: 0, day: r.Intn(len(b.Days)), l: someRecords(r, b)}
		mine, with := copyOf(b), args{t: copyOfTruth(a.t), loan: a.loan, day: a.day, l: slices.Clone(a.l)}
		kept, again := callAll(mine, with), callAll(mine, with)
		for i, x := range again {
			lists, ranges := x.parts()
			first, spans := kept[i].parts()
			for n := range lists {
				if !slices.Equal(lists[n], first[n]) {
					t.Fatalf("%s of %v: the list %d has become %v", x.call, b, n, lists[n])
				}
				fill(lists[n])
			}
			for n, l := range ranges {
				if !slices.Equal(l, spans[n]) {
					t.Fatalf("%s of %v: the list %d has become %v", x.call, b, n, l)
				}
				for k := range l[:cap(l)] {
					l[:cap(l)][k] = to(-7, -7)
				}
			}
			if !reflect.DeepEqual(mine, b) || !reflect.DeepEqual(with, a) || !reflect.DeepEqual(kept, callAll(mine, with)) {
				t.Fatalf("%s: %v, %v has become %v, %v", x.call, b, a, mine, with)
			}
		}
	}
}

// TestR4Spare: memory beyond the ends of lists is not written to.
func TestR4Spare(t *testing.T) {
	b, truth := theExample(), theTruth()
	b.Days = append(make([]margin.Day, 0, 9), b.Days...)
	b.Loans = append(make([]margin.Loan, 0, 9), b.Loans...)
	b.Days[1].Prices = append(make([]margin.Range, 0, 9), b.Days[1].Prices...)
	b.Loans[0].Shares = append(make([]int, 0, 9), b.Loans[0].Shares...)
	truth.Prices = append(make([][]int, 0, 9), truth.Prices...)
	truth.Prices[1] = append(make([]int, 0, 9), truth.Prices[1]...)
	truth.Rates = append(make([]int, 0, 9), truth.Rates...)
	records := append(make([]margin.Record, 0, 9), said([3]int{0, 1, 2000})...)
	money, shares := append(make([]int, 0, 9), 4, 2, 2), append(make([]int, 0, 9), 2, 0)
	callAll(b, args{t: truth, day: 1, l: records})
	parts, _ := margin.Parts(money, 7)
	fill(parts)
	if !margin.ProveSale(b, truth, 0, 1, shares, 2) || !slices.Equal(money, list(4, 2, 2)) || !slices.Equal(shares, list(2, 0)) {
		t.Errorf("%v and %v: written to", money, shares)
	}
	isClean := true
	for _, l := range [][]int{b.Loans[0].Shares, truth.Prices[1], truth.Rates, money, shares} {
		isClean = isClean && slices.Max(l[3:9]) == 0 && slices.Min(l[3:9]) == 0
	}
	for i := 2; i < 9; i++ {
		isClean = isClean && b.Days[:9][i].Prices == nil && b.Loans[:9][i].Shares == nil && truth.Prices[:9][i] == nil
		isClean = isClean && b.Days[1].Prices[:9][i] == margin.Range{} && records[:9][i] == margin.Record{}
	}
	if !isClean {
		t.Errorf("%v, %v and %v: written to", b, truth, records)
	}
}

// anyNumber returns numbers within limits, near them, and far away.
func anyNumber(r *rand.Rand) int {
	return pick(r, 0, 0, 0, 0, 1, 1, 1, 2, 2, 3, 4, 5, 100, 101, 1000, 1001, 100000, 100001, -1, farthest, lowest, r.Int(), -r.Int())
}

// anyList returns a list of any numbers.
func anyList(r *rand.Rand) []int {
	var list []int
	for range pick(r, 0, 1, 1, 2, 2, 3, 4, 5) {
		list = append(list, anyNumber(r))
	}
	return list
}

// anyBank returns a bank that is often not valid.
func anyBank(r *rand.Rand) margin.Bank {
	b := copyOf(pick(r, someBank(r, 100), someBank(r, 100), theExample(), margin.Bank{}, known(anyNumber(r), loan(anyNumber(r), anyNumber(r), anyList(r)...), anyList(r)...)))
	b.Stocks = pick(r, b.Stocks, b.Stocks, b.Stocks, b.Stocks, anyNumber(r))
	switch r.Intn(8) {
	case 0:
		b.Days = append(b.Days, margin.Day{Prices: slices.Repeat([]margin.Range{to(anyNumber(r), anyNumber(r))}, r.Intn(6)), Rate: to(anyNumber(r), anyNumber(r))})
	case 1:
		b.Loans = append(b.Loans, loan(anyNumber(r), anyNumber(r), anyList(r)...))
	case 2:
		b.Days = b.Days[:len(b.Days)/2]
	case 3:
		b.Loans = slices.Repeat(b.Loans, 3)
	}
	return b
}

// anyTruth returns a truth that is often none of the bank.
func anyTruth(r *rand.Rand, b margin.Bank) margin.Truth {
	t := pick(r, atLeast(b), atLeast(b), margin.Truth{Rates: anyList(r)})
	if r.Intn(4) == 0 {
		t.Prices = append(t.Prices, anyList(r))
	}
	if r.Intn(4) == 0 && len(t.Prices) > 0 {
		t.Prices[r.Intn(len(t.Prices))] = anyList(r)
	}
	return t
}

// TestP1Returns: no call panics, and each has no result with its error, whatever
// its arguments are.
func TestP1Returns(t *testing.T) {
	r := rand.New(rand.NewSource(1))
	is, sold := map[api.Errno]int{}, map[api.Errno]int{}
	for range 20000 {
		b := anyBank(r)
		a := args{t: anyTruth(r, b), loan: pick(r, 0, 0, anyNumber(r)), day: pick(r, 0, 0, anyNumber(r))}
		for range r.Intn(3) {
			a.l = append(a.l, margin.Record{Loan: anyNumber(r), Day: anyNumber(r), Pence: anyNumber(r)})
		}
		e := margin.CheckBank(b)
		is[e]++
		for _, x := range callAll(b, a) {
			if x.e != api.OK && !x.isZero() || e != api.OK && x.e != e {
				t.Fatalf("%s of %v, %v: %v, %v", x.call, b, a, x.values, x.e)
			}
			if x.call == "Sell" {
				sold[x.e]++
			}
		}
		if margin.ProveSale(b, a.t, a.loan, a.day, anyList(r), anyNumber(r)) && e != api.OK {
			t.Fatalf("ProveSale of %v, %v", b, a)
		}
		if parts, e := margin.Parts(anyList(r), anyNumber(r)); e != api.OK && parts != nil {
			t.Fatalf("Parts: %v, %v", parts, e)
		}
	}
	if is[api.OK] < 2000 || is[api.ErrArg] < 2000 || is[api.ErrLimit] < 1000 || sold[api.OK] < 100 || sold[api.ErrShort] < 50 || sold[api.ErrNone] < 100 {
		t.Errorf("errors: %v; of Sell: %v", is, sold)
	}
}

// TestP1Widest: as much as there may be of everything.
func TestP1Widest(t *testing.T) {
	wide := day(to(0, 100), 0, 1000, 0, 1000, 0, 1000, 0, 1000)
	b := margin.Bank{Stocks: 4, Days: []margin.Day{wide, wide, wide, wide}}
	for percent := range 4 {
		b.Loans = append(b.Loans, loan(100000, 97+percent, 100, 100, 100, 100))
	}
	if got, e := margin.Total(b); !slices.Equal(got, spans(0, 404000, 0, 408040, 0, 412120, 0, 416240)) || e != api.OK {
		t.Errorf("Total: %v, %v", got, e)
	}
	truth := margin.Truth{Rates: list(100, 100, 100, 100)}
	for range 4 {
		truth.Prices = append(truth.Prices, list(500, 500, 500, 500))
	}
	truth.Prices[3] = list(261, 261, 261, 261)
	// 101000 pence are owed, and 104400 is the value: a sale of 97600 is enough.
	sold, e := margin.Sell(b, truth, 3, 3)
	if total(sold) != 374 || e != api.OK || !margin.ProveSale(b, truth, 3, 3, sold, 374) {
		t.Errorf("Sell: %v, %v", sold, e)
	}
	truth.Prices[3] = list(0, 0, 0, 0)
	if sold, e := margin.Sell(b, truth, 3, 3); sold != nil || e != api.ErrShort {
		t.Errorf("Sell of what is worth nothing: %v, %v", sold, e)
	}
}
