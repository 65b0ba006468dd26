package margin_test

import (
	"math/rand"
	"slices"

	"contango/api"
	"contango/margin"
)

// The oracle follows the chapter's definitions day by day, and tries everything:
// all truths, and all sales.

// pick returns one of the elements.
func pick[T any](r *rand.Rand, list ...T) T { return list[r.Intn(len(list))] }

// between returns a number of the range.
func between(r *rand.Rand, low, high int) int { return low + r.Intn(high-low+1) }

// total returns the sum of the numbers.
func total(list []int) (sum int) {
	for _, n := range list {
		sum += n
	}
	return sum
}

// night is what is so of a loan on a day: its debt before the call, the interest
// in it, the value of the shares, the call, and the debt after it.
type night struct{ owed, interest, value, call, debt int }

// nights returns what is so of the loan on each day, in the truth.
func nights(b margin.Bank, t margin.Truth, loan int) []night {
	var list []night
	l := b.Loans[loan]
	debt := l.Money
	for i := range b.Days {
		n := night{interest: debt * t.Rates[i] / 10000}
		n.owed = debt + n.interest
		for stock, price := range t.Prices[i] {
			n.value += price * l.Shares[stock]
		}
		n.call = max(n.owed-100*n.value/(100+l.Margin), 0)
		debt = n.owed - n.call
		n.debt = debt
		list = append(list, n)
	}
	return list
}

// debtsOf returns the debts of the days.
func debtsOf(list []night) (debts []int) {
	for _, n := range list {
		debts = append(debts, n.debt)
	}
	return debts
}

// callsOf returns the calls of the days.
func callsOf(list []night) (calls []int) {
	for _, n := range list {
		calls = append(calls, n.call)
	}
	return calls
}

// restores reports whether the sale restores the margin of the loan on the day, in
// the truth.
func restores(b margin.Bank, t margin.Truth, loan, day int, sale []int) bool {
	n := nights(b, t, loan)[day]
	proceeds := 0
	for stock, price := range t.Prices[day] {
		proceeds += price * sale[stock]
	}
	if proceeds >= n.owed {
		return true
	}
	return (n.value-proceeds)*100 >= (n.owed-proceeds)*(100+b.Loans[loan].Margin)
}

// eachSale calls with all sales of the loan.
func eachSale(l margin.Loan, call func(sale []int)) {
	sale := make([]int, len(l.Shares))
	var choose func(stock int)
	choose = func(stock int) {
		if stock == len(sale) {
			call(sale)
			return
		}
		for n := range l.Shares[stock] + 1 {
			sale[stock] = n
			choose(stock + 1)
		}
	}
	choose(0)
}

// countSales returns how many sales there are.
func countSales(l margin.Loan) int {
	many := 1
	for _, n := range l.Shares {
		many *= n + 1
	}
	return many
}

// fewest returns the fewest shares of all sales that restore the margin, or -1.
func fewest(b margin.Bank, t margin.Truth, loan, day int) int {
	least := -1
	eachSale(b.Loans[loan], func(sale []int) {
		if (least == -1 || total(sale) < least) && restores(b, t, loan, day, sale) {
			least = total(sale)
		}
	})
	return least
}

// partsOf returns the parts of the sum: pence that are left go one by one to the
// part with the greatest remainder that has got none.
func partsOf(money []int, sum int) []int {
	all := total(money)
	var parts, order []int
	for i, amount := range money {
		parts, order = append(parts, amount*sum/all), append(order, i)
	}
	remainder := func(i int) int { return money[i] * sum % all }
	slices.SortStableFunc(order, func(i, j int) int { return remainder(j) - remainder(i) })
	for n := range sum - total(parts) {
		parts[order[n]]++
	}
	return parts
}

// countTruths returns how many truths the bank has.
func countTruths(b margin.Bank) int {
	many := 1
	for _, d := range b.Days {
		many *= d.Rate.Hi - d.Rate.Lo + 1
		for _, x := range d.Prices {
			many *= x.Hi - x.Lo + 1
		}
	}
	return many
}

// allTruths returns all truths of the bank.
func allTruths(b margin.Bank) []margin.Truth {
	var list []margin.Truth
	now := atLeast(b)
	var places []*int
	var ranges []margin.Range
	for i, d := range b.Days {
		places, ranges = append(places, &now.Rates[i]), append(ranges, d.Rate)
		for stock, x := range d.Prices {
			places, ranges = append(places, &now.Prices[i][stock]), append(ranges, x)
		}
	}
	var choose func(i int)
	choose = func(i int) {
		if i == len(places) {
			list = append(list, copyOfTruth(now))
			return
		}
		for n := ranges[i].Lo; n <= ranges[i].Hi; n++ {
			*places[i] = n
			choose(i + 1)
		}
	}
	choose(0)
	return list
}

// limits are the bounds of the debts and of the calls of each loan, and of the
// sums of all calls, on each day.
type limits struct {
	debts, calls [][]margin.Range
	sums         []margin.Range
}

// ends returns for each day the range of the numbers of this day, in all lists.
func ends(all [][]int) []margin.Range {
	var list []margin.Range
	for i := range all[0] {
		x := one(all[0][i])
		for _, l := range all {
			x = to(min(x.Lo, l[i]), max(x.Hi, l[i]))
		}
		list = append(list, x)
	}
	return list
}

// limitsOf returns the limits in all these truths, as the call says what is so of
// a loan in a truth.
func limitsOf(b margin.Bank, truths []margin.Truth, ask func(t margin.Truth, loan int) (debts, calls []int)) limits {
	var x limits
	sums := make([][]int, len(truths))
	for i := range sums {
		sums[i] = make([]int, len(b.Days))
	}
	for loan := range b.Loans {
		var debts, calls [][]int
		for i, t := range truths {
			d, c := ask(t, loan)
			debts, calls = append(debts, d), append(calls, c)
			for day := range b.Days {
				sums[i][day] += c[day]
			}
		}
		x.debts, x.calls = append(x.debts, ends(debts)), append(x.calls, ends(calls))
	}
	x.sums = ends(sums)
	return x
}

// oracleLimits returns the limits in all truths, by the definitions.
func oracleLimits(b margin.Bank) limits {
	return limitsOf(b, allTruths(b), func(t margin.Truth, loan int) (debts, calls []int) {
		list := nights(b, t, loan)
		return debtsOf(list), callsOf(list)
	})
}

// isSame reports whether both are the same.
func (x limits) isSame(y limits) bool {
	equal := slices.Equal[[]margin.Range]
	return slices.EqualFunc(x.debts, y.debts, equal) && slices.EqualFunc(x.calls, y.calls, equal) && slices.Equal(x.sums, y.sums)
}

// isIn reports whether no bounds are wider than those of the other ones.
func (x limits) isIn(y limits) bool {
	within := func(a, b []margin.Range) bool {
		return slices.EqualFunc(a, b, func(l, k margin.Range) bool { return l.Lo >= k.Lo && l.Hi <= k.Hi })
	}
	return slices.EqualFunc(x.debts, y.debts, within) && slices.EqualFunc(x.calls, y.calls, within) && within(x.sums, y.sums)
}

// copyOf returns the bank in memory of its own.
func copyOf(b margin.Bank) margin.Bank {
	b.Days, b.Loans = slices.Clone(b.Days), slices.Clone(b.Loans)
	for i := range b.Days {
		b.Days[i].Prices = slices.Clone(b.Days[i].Prices)
	}
	for i := range b.Loans {
		b.Loans[i].Shares = slices.Clone(b.Loans[i].Shares)
	}
	return b
}

// copyOfTruth returns the truth in memory of its own.
func copyOfTruth(t margin.Truth) margin.Truth {
	t.Prices, t.Rates = slices.Clone(t.Prices), slices.Clone(t.Rates)
	for i := range t.Prices {
		t.Prices[i] = slices.Clone(t.Prices[i])
	}
	return t
}

// someRange returns a range near the number, of numbers from 0 to the greatest one.
func someRange(r *rand.Rand, near, greatest int) margin.Range {
	low := min(max(near+between(r, -2, 2), 0), greatest)
	return to(low, min(low+pick(r, 0, 0, 0, 1, 1, 2, 5), greatest))
}

// someLoan returns a loan of about as much money as it can be, as its shares are
// worth on a day.
func someLoan(r *rand.Rand, b margin.Bank) margin.Loan {
	l := margin.Loan{Margin: pick(r, 0, 1, 10, 20, 25, 50, 99, 100, between(r, 0, 100))}
	most := pick(r, 3, 9, 40, 100)
	for range b.Stocks {
		l.Shares = append(l.Shares, pick(r, 0, between(r, 0, most), between(r, 0, most), most))
	}
	value := 0
	for stock, x := range pick(r, b.Days...).Prices {
		value += l.Shares[stock] * between(r, x.Lo, x.Hi)
	}
	l.Money = value*pick(r, 100, 100, 100, 95, 105, 120, 50)/(100+l.Margin) + between(r, -3, 3)
	l.Money = min(max(l.Money, 0), api.MaxMarginMoney)
	if r.Intn(12) == 0 {
		l.Money = pick(r, 0, 1, api.MaxMarginMoney)
	}
	return l
}

// anyBankOf returns any valid bank, with loans.
func anyBankOf(r *rand.Rand) margin.Bank {
	b := margin.Bank{Stocks: between(r, 1, api.MaxMarginStocks)}
	var near []int
	for range b.Stocks {
		near = append(near, pick(r, 0, between(r, 0, 20), between(r, 0, 100), between(r, 0, api.MaxMarginPrice)))
	}
	for range between(r, 1, api.MaxMarginDays) {
		d := margin.Day{Rate: someRange(r, pick(r, 0, 10, 50, 100, 100), api.MaxMarginRate)}
		for stock := range near {
			near[stock] = max(near[stock]+pick(r, 0, 0, between(r, -2, 2), near[stock]/10, -near[stock]/10), 0)
			d.Prices = append(d.Prices, someRange(r, near[stock], api.MaxMarginPrice))
		}
		b.Days = append(b.Days, d)
	}
	for range between(r, 1, api.MaxMarginLoans) {
		b.Loans = append(b.Loans, someLoan(r, b))
	}
	return b
}

// someBank returns a valid bank with loans, and with at most so many truths.
func someBank(r *rand.Rand, most int) margin.Bank {
	for {
		if b := anyBankOf(r); countTruths(b) <= most {
			return b
		}
	}
}

// banks returns so many banks, always the same ones.
func banks(many, most int) []margin.Bank {
	r := rand.New(rand.NewSource(1901))
	var list []margin.Bank
	for range many {
		list = append(list, someBank(r, most))
	}
	return list
}

// someTruth returns a truth of the bank.
func someTruth(r *rand.Rand, b margin.Bank) margin.Truth {
	t := atLeast(b)
	for i, d := range b.Days {
		t.Rates[i] = between(r, d.Rate.Lo, d.Rate.Hi)
		for stock, x := range d.Prices {
			t.Prices[i][stock] = between(r, x.Lo, x.Hi)
		}
	}
	return t
}

// someRecords returns records of what can have been called, or not quite.
func someRecords(r *rand.Rand, b margin.Bank) []margin.Record {
	var list []margin.Record
	for range 6 {
		x := margin.Record{Loan: r.Intn(len(b.Loans)), Day: r.Intn(len(b.Days))}
		x.Pence = nights(b, someTruth(r, b), x.Loan)[x.Day].call + pick(r, 0, 0, 0, 1, -1, between(r, -9, 9))
		list = append(list, x)
	}
	return list
}

// called is a loan that is called on a day, in a truth of a bank.
type called struct {
	b         margin.Bank
	t         margin.Truth
	loan, day int
}

// allCalled returns so many of them, with at most so many sales, always the same ones.
func allCalled(many, most int) []called {
	r := rand.New(rand.NewSource(1902))
	var list []called
	for len(list) < many {
		b := someBank(r, 1<<30)
		t := someTruth(r, b)
		for loan, l := range b.Loans {
			for day, n := range nights(b, t, loan) {
				if n.call > 0 && n.value > 0 && countSales(l) <= most && r.Intn(3) == 0 {
					list = append(list, called{b, t, loan, day})
				}
			}
		}
	}
	return list
}
