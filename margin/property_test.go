package margin_test

import (
	"math/rand"
	"slices"
	"testing"

	"contango/api"
	"contango/margin"
)

// play calls Play, which must have no error.
func play(t *testing.T, b margin.Bank, truth margin.Truth) (debts, calls [][]int) {
	t.Helper()
	debts, calls, e := margin.Play(b, truth)
	if e != api.OK || len(debts) != len(b.Loans) || len(calls) != len(b.Loans) {
		t.Fatalf("Play of %v, %v: %v, %v, %v", b, truth, debts, calls, e)
	}
	return debts, calls
}

// bounds calls Bounds for all loans, and Total, which must have no error.
func bounds(t *testing.T, b margin.Bank) limits {
	t.Helper()
	sums, e := margin.Total(b)
	x := limits{sums: sums}
	for loan := range b.Loans {
		debts, calls, f := margin.Bounds(b, loan)
		if e != api.OK || f != api.OK {
			t.Fatalf("Total of %v: %v; Bounds of the loan %d: %v", b, e, loan, f)
		}
		x.debts, x.calls = append(x.debts, debts), append(x.calls, calls)
	}
	return x
}

// surely calls Surely, which must have no error.
func surely(t *testing.T, b margin.Bank, day int) (sure, may []int) {
	t.Helper()
	sure, may, e := margin.Surely(b, day)
	if e != api.OK {
		t.Fatalf("Surely of %v, %d: %v", b, day, e)
	}
	return sure, may
}

// odd calls Odd, which must have no error.
func odd(t *testing.T, b margin.Bank, l []margin.Record) []int {
	t.Helper()
	list, e := margin.Odd(b, l)
	if e != api.OK {
		t.Fatalf("Odd of %v, %v: %v", b, l, e)
	}
	return list
}

// parts calls Parts, which must have no error.
func parts(t *testing.T, money []int, sum int) []int {
	t.Helper()
	list, e := margin.Parts(money, sum)
	if e != api.OK || len(list) != len(money) {
		t.Fatalf("Parts of %d for %v: %v, %v", sum, money, list, e)
	}
	return list
}

// TestP9_1Oracle compares Play with the definitions.
func TestP9_1Oracle(t *testing.T) {
	r := rand.New(rand.NewSource(1))
	called, not := 0, 0
	for range 5000 {
		b := someBank(r, 1<<30)
		truth := someTruth(r, b)
		debts, calls := play(t, b, truth)
		for loan := range b.Loans {
			want := nights(b, truth, loan)
			if !slices.Equal(debts[loan], debtsOf(want)) || !slices.Equal(calls[loan], callsOf(want)) {
				t.Fatalf("Play of %v, %v: %v, %v; of the loan %d %v", b, truth, debts, calls, loan, want)
			}
			for _, n := range calls[loan] {
				if n > 0 {
					called++
				} else {
					not++
				}
			}
		}
	}
	if called < 5000 || not < 5000 {
		t.Errorf("called: %d; not: %d", called, not)
	}
}

// TestP9_2Oracle compares Bounds and Total with all truths.
func TestP9_2Oracle(t *testing.T) {
	unsure := 0
	for _, b := range banks(1500, 600) {
		got, want := bounds(t, b), oracleLimits(b)
		if !got.isSame(want) {
			t.Fatalf("Bounds, Total of %v: %v; want %v", b, got, want)
		}
		for _, x := range want.sums {
			if x.Lo < x.Hi {
				unsure++
			}
		}
	}
	if unsure < 1000 {
		t.Errorf("only %d sums that are not known", unsure)
	}
}

// TestP9_3Oracle compares Surely with all truths.
func TestP9_3Oracle(t *testing.T) {
	always, some, never := 0, 0, 0
	for _, b := range banks(1500, 300) {
		all := allTruths(b)
		for day := range b.Days {
			var sure, may []int
			for loan := range b.Loans {
				many := 0
				for _, truth := range all {
					many += min(nights(b, truth, loan)[day].call, 1)
				}
				if many == len(all) {
					sure = append(sure, loan)
					always++
				}
				if many > 0 {
					may = append(may, loan)
					some++
				} else {
					never++
				}
			}
			if got, also := surely(t, b, day); !slices.Equal(got, sure) || !slices.Equal(also, may) {
				t.Fatalf("Surely of %v, %d: %v, %v; want %v, %v", b, day, got, also, sure, may)
			}
		}
	}
	if always < 1000 || some-always < 1000 || never < 1000 {
		t.Errorf("surely called: %d, perhaps: %d, never: %d", always, some-always, never)
	}
}

// TestP9_4Oracle compares Sell and ProveSale with all sales.
func TestP9_4Oracle(t *testing.T) {
	r := rand.New(rand.NewSource(4))
	is := map[api.Errno]int{}
	for _, x := range allCalled(3000, 3000) {
		want, due := fewest(x.b, x.t, x.loan, x.day), api.OK
		if want == -1 {
			want, due = 0, api.ErrShort
		}
		sold, e := margin.Sell(x.b, x.t, x.loan, x.day)
		if total(sold) != want || e != due || e != api.OK && sold != nil {
			t.Fatalf("Sell of %v: %v, %v; want %d, %v", x, sold, e, want, due)
		}
		is[e]++
		eachSale(x.b.Loans[x.loan], func(sale []int) {
			if r.Intn(9) > 0 {
				return
			}
			most := total(sale) + between(r, -1, 1)
			isSale := most >= total(sale) && restores(x.b, x.t, x.loan, x.day, sale)
			if margin.ProveSale(x.b, x.t, x.loan, x.day, sale, most) != isSale {
				t.Fatalf("ProveSale of %v, %v, %d: %v", x, sale, most, !isSale)
			}
		})
	}
	if is[api.OK] < 1000 || is[api.ErrShort] < 300 {
		t.Errorf("errors: %v", is)
	}
}

// TestP9_4NotCalled: there is a sale, or none, if and only if the loan is called.
func TestP9_4NotCalled(t *testing.T) {
	r := rand.New(rand.NewSource(40))
	is := map[api.Errno]int{}
	for range 3000 {
		b := someBank(r, 1<<30)
		truth := someTruth(r, b)
		_, calls := play(t, b, truth)
		for loan, l := range calls {
			for day, call := range l {
				sold, e := margin.Sell(b, truth, loan, day)
				isProved := margin.ProveSale(b, truth, loan, day, b.Loans[loan].Shares, farthest)
				if (e == api.ErrNone) != (call == 0) || isProved != (e == api.OK) || e != api.OK && sold != nil {
					t.Fatalf("Sell of %v, %v, %d, %d: %v, %v; called for %d; all: %v", b, truth, loan, day, sold, e, call, isProved)
				}
				is[e]++
			}
		}
	}
	if is[api.OK] < 1000 || is[api.ErrShort] < 1000 || is[api.ErrNone] < 1000 {
		t.Errorf("errors: %v", is)
	}
}

// someMoney returns amounts, together at least 1.
func someMoney(r *rand.Rand) []int {
	most := pick(r, 1, 2, 5, 20, 1000, api.MaxMarginMoney)
	var list []int
	for range between(r, 1, api.MaxMarginLoans) {
		list = append(list, pick(r, between(r, 0, most), between(r, 0, most), most))
	}
	if len(list) > 1 && r.Intn(3) == 0 {
		list[0] = list[1]
	}
	if total(list) == 0 {
		list[r.Intn(len(list))] = most
	}
	return list
}

// TestP9_5Oracle compares Parts with the definition.
func TestP9_5Oracle(t *testing.T) {
	r := rand.New(rand.NewSource(5))
	for range 20000 {
		money := someMoney(r)
		sum := between(r, 0, total(money))
		if got, want := parts(t, money, sum), partsOf(money, sum); !slices.Equal(got, want) {
			t.Fatalf("Parts of %d for %v: %v; want %v", sum, money, got, want)
		}
	}
}

// TestP9_6Oracle compares Odd with the bounds in all truths.
func TestP9_6Oracle(t *testing.T) {
	r := rand.New(rand.NewSource(6))
	some, none := 0, 0
	for _, b := range banks(1000, 300) {
		all := oracleLimits(b)
		records := someRecords(r, b)
		var want []int
		for i, x := range records {
			if c := all.calls[x.Loan][x.Day]; x.Pence < c.Lo || x.Pence > c.Hi {
				want = append(want, i)
			}
		}
		if got := odd(t, b, records); !slices.Equal(got, want) {
			t.Fatalf("Odd of %v, %v: %v; want %v", b, records, got, want)
		}
		some += len(want)
		none += len(records) - len(want)
	}
	if some < 1000 || none < 1000 {
		t.Errorf("odd: %d; not: %d", some, none)
	}
}

// TestP9_7EachTruth: all numbers are within their bounds, each end is reached, and
// no call is odd.
func TestP9_7EachTruth(t *testing.T) {
	for _, b := range banks(600, 200) {
		ask := func(truth margin.Truth, loan int) ([]int, []int) {
			debts, calls := play(t, b, truth)
			var records []margin.Record
			for day, n := range calls[loan] {
				records = append(records, margin.Record{Loan: loan, Day: day, Pence: n})
			}
			if l := odd(t, b, records); len(l) > 0 {
				t.Fatalf("Odd of %v, %v: %v", b, records, l)
			}
			return debts[loan], calls[loan]
		}
		if got, want := bounds(t, b), limitsOf(b, allTruths(b), ask); !got.isSame(want) {
			t.Fatalf("Bounds, Total of %v: %v; in the truths %v", b, got, want)
		}
	}
}

func TestP9_8Margin(t *testing.T) {
	r := rand.New(rand.NewSource(8))
	for range 3000 {
		b := someBank(r, 1<<30)
		truth := someTruth(r, b)
		debts, calls := play(t, b, truth)
		for loan, l := range b.Loans {
			for day := range b.Days {
				value := 0
				for stock, price := range truth.Prices[day] {
					value += price * l.Shares[stock]
				}
				debt := debts[loan][day]
				if debt < 0 || calls[loan][day] < 0 || 100*value < debt*(100+l.Margin) {
					t.Fatalf("Play of %v, %v: %v of the loan %d, which is worth %d", b, truth, debts, loan, value)
				}
				// Of what is called not a penny is too much.
				if calls[loan][day] > 0 && 100*value >= (debt+1)*(100+l.Margin) {
					t.Fatalf("Play of %v, %v: %v; too much is called of the loan %d", b, truth, calls, loan)
				}
			}
		}
	}
}

// TestP9_9Penny: the money, with all interest, and less all calls, is the last debt.
func TestP9_9Penny(t *testing.T) {
	r := rand.New(rand.NewSource(9))
	grown := 0
	for i := range 3000 {
		b := someBank(r, 1<<30)
		for day := range b.Days {
			if i%2 == 0 {
				b.Days[day].Rate = one(0)
			}
		}
		truth := someTruth(r, b)
		debts, calls := play(t, b, truth)
		for loan, l := range b.Loans {
			interest, debt := 0, l.Money
			for day, rate := range truth.Rates {
				interest += debt * rate / 10000
				debt = debts[loan][day]
			}
			if l.Money+interest-total(calls[loan]) != debt || i%2 == 0 && total(calls[loan]) != l.Money-debt {
				t.Fatalf("Play of %v, %v: %v, %v", b, truth, debts, calls)
			}
			grown += min(interest, 1)
		}
	}
	if grown < 500 {
		t.Errorf("only %d with interest", grown)
	}
}

// raised returns the truth with some greater prices, and rates.
func raised(r *rand.Rand, b margin.Bank, t margin.Truth) margin.Truth {
	t = copyOfTruth(t)
	for i, d := range b.Days {
		t.Rates[i] = between(r, t.Rates[i], d.Rate.Hi)
		for stock, x := range d.Prices {
			t.Prices[i][stock] = between(r, t.Prices[i][stock], x.Hi)
		}
	}
	return t
}

func TestP9_10Prices(t *testing.T) {
	r := rand.New(rand.NewSource(10))
	greater, smaller := 0, 0
	for range 5000 {
		b := someBank(r, 1<<30)
		truth := someTruth(r, b)
		debts, calls := play(t, b, truth)
		more, _ := play(t, b, raised(r, b, truth))
		day := r.Intn(len(b.Days))
		other := copyOfTruth(truth)
		other.Prices[day] = raised(r, b, truth).Prices[day]
		_, fewer := play(t, b, other)
		for loan := range b.Loans {
			for i, debt := range debts[loan] {
				if more[loan][i] < debt {
					t.Fatalf("Play of %v, %v: %v; with greater prices and rates %v", b, truth, debts, more)
				}
				greater += min(more[loan][i]-debt, 1)
			}
			if fewer[loan][day] > calls[loan][day] {
				t.Fatalf("Play of %v, %v: %v; with greater prices on the day %d %v", b, truth, calls, day, fewer)
			}
			smaller += min(calls[loan][day]-fewer[loan][day], 1)
		}
	}
	if greater < 1000 || smaller < 1000 {
		t.Errorf("greater debts: %d; smaller calls: %d", greater, smaller)
	}
}

func TestP9_11Sure(t *testing.T) {
	r := rand.New(rand.NewSource(11))
	for range 3000 {
		b := someBank(r, 1<<30)
		x := bounds(t, b)
		for day := range b.Days {
			sure, may := surely(t, b, day)
			var always, some []int
			for loan := range b.Loans {
				if x.calls[loan][day].Lo > 0 {
					always = append(always, loan)
				}
				if x.calls[loan][day].Hi > 0 {
					some = append(some, loan)
				}
			}
			isIn := func(loan int) bool { return !slices.Contains(may, loan) }
			if !slices.Equal(sure, always) || !slices.Equal(may, some) || slices.ContainsFunc(sure, isIn) {
				t.Fatalf("Surely of %v, %d: %v, %v; the bounds are %v", b, day, sure, may, x.calls)
			}
		}
	}
}

// TestP9_12Fewest tries all sales of fewer shares, and those of one share more.
func TestP9_12Fewest(t *testing.T) {
	some, more := 0, 0
	for _, x := range allCalled(1500, 1500) {
		proves := func(sale []int) bool {
			return margin.ProveSale(x.b, x.t, x.loan, x.day, sale, farthest)
		}
		sold, e := margin.Sell(x.b, x.t, x.loan, x.day)
		if e == api.OK && !proves(sold) {
			t.Fatalf("Sell of %v: %v", x, sold)
		}
		eachSale(x.b.Loans[x.loan], func(sale []int) {
			isProved := proves(sale)
			if isProved && (e != api.OK || total(sale) < total(sold)) {
				t.Fatalf("Sell of %v: %v, %v; but %v is a sale", x, sold, e, sale)
			}
			some++
			if !isProved {
				return
			}
			for stock, has := range x.b.Loans[x.loan].Shares {
				with := slices.Clone(sale)
				with[stock]++
				if with[stock] <= has != proves(with) {
					t.Fatalf("ProveSale of %v: %v, but not as due %v", x, sale, with)
				}
				more++
			}
		})
	}
	if some < 50000 || more < 5000 {
		t.Errorf("sales: %d; with one share more: %d", some, more)
	}
}

func TestP9_13Parts(t *testing.T) {
	r := rand.New(rand.NewSource(13))
	left := 0
	for range 20000 {
		money := someMoney(r)
		all := total(money)
		sum := between(r, 0, all)
		got := parts(t, money, sum)
		if total(got) != sum {
			t.Fatalf("Parts of %d for %v: %v", sum, money, got)
		}
		for i, part := range got {
			apart := part*all - money[i]*sum
			if part < 0 || part > money[i] || apart <= -all || apart >= all {
				t.Fatalf("Parts of %d for %v: %v", sum, money, got)
			}
			for k, other := range got {
				if money[i] > money[k] && part < other {
					t.Fatalf("Parts of %d for %v: %v; a greater amount has a smaller part", sum, money, got)
				}
			}
			left += max(0, min(apart, 1))
		}
	}
	if left < 5000 {
		t.Errorf("only %d pence were left", left)
	}
}

// wider returns the range with a few numbers more, at one end or both.
func wider(r *rand.Rand, x margin.Range, greatest int) margin.Range {
	return to(max(0, x.Lo-pick(r, 0, 0, 1, 5)), min(greatest, x.Hi+pick(r, 0, 0, 1, 5)))
}

func TestP9_14Wider(t *testing.T) {
	r := rand.New(rand.NewSource(14))
	more, fewer := 0, 0
	for range 3000 {
		b := someBank(r, 1<<30)
		with := copyOf(b)
		for i := range with.Days {
			d := &with.Days[i]
			d.Rate = wider(r, d.Rate, api.MaxMarginRate)
			for stock, x := range d.Prices {
				d.Prices[stock] = wider(r, x, api.MaxMarginPrice)
			}
		}
		before, after := bounds(t, b), bounds(t, with)
		if !before.isIn(after) {
			t.Fatalf("Bounds of %v: %v; of %v: %v", b, before, with, after)
		}
		if !before.isSame(after) {
			more++
		}
		records := someRecords(r, b)
		was, is := odd(t, b, records), odd(t, with, records)
		for _, i := range is {
			if !slices.Contains(was, i) {
				t.Fatalf("Odd of %v, %v: %v; of %v: %v", b, records, was, with, is)
			}
		}
		fewer += len(was) - len(is)
	}
	if more < 1000 || fewer < 1000 {
		t.Errorf("wider: %d; no longer odd: %d", more, fewer)
	}
}
