package margin

// spot is a loan on a day.
type spot struct{ loan, day int }

// work is a bank at work in a truth, with the loans of which it is known how they
// stand on a day.
type work struct {
	Bank
	Truth
	known map[spot]standing
}

// end is one of the ends of each range.
type end struct{ of func(Range) int }

// extremes are a bank at work in the truth of all least prices and rates, and in
// that of all greatest ones.
type extremes struct{ low, high *work }

// spot returns the loan on the day of the record.
func (r Record) spot() spot { return spot{loan: r.Loan, day: r.Day} }

// begin returns the bank at work in the truth.
func (b Bank) begin(t Truth) *work { return &work{Bank: b, Truth: t, known: map[spot]standing{}} }

// prices returns the prices of the day.
func (w *work) prices(day int) prices {
	var p prices
	copy(p[:], w.Prices[day])
	return p
}

// at returns how the loan stands on the day.
func (w *work) at(s spot) standing {
	if x, ok := w.known[s]; ok {
		return x
	}
	l := w.Loans[s.loan]
	debt := l.Money
	if s.day > 0 {
		debt = w.at(spot{loan: s.loan, day: s.day - 1}).debt()
	}
	x := standing{owed: grown(debt, w.Rates[s.day]), value: w.prices(s.day).worth(l.Shares), margin: l.Margin}
	w.known[s] = x
	return x
}

// each returns what is asked of the loan, for each day.
func (w *work) each(loan int, asked func(standing) int) []int {
	list := make([]int, len(w.Days))
	for day := range list {
		list[day] = asked(w.at(spot{loan: loan, day: day}))
	}
	return list
}

// fewest returns a sale of the fewest shares that restores the margin, and whether
// there is one. The more the shares are sold for, the sooner it is restored, so
// those of greater prices are sold first.
func (w *work) fewest(s spot) (sold []int, found bool) {
	has, p, x := w.Loans[s.loan].Shares, w.prices(s.day), w.at(s)
	sold = make([]int, w.Stocks)
	proceeds := 0
	var sell func(stock int) bool
	sell = func(stock int) bool {
		if x.isRestored(proceeds) {
			return true
		}
		if sold[stock] == has[stock] {
			return false
		}
		sold[stock]++
		proceeds += p[stock]
		return sell(stock)
	}
	for stock := range p.dearest() {
		if sell(stock) {
			return sold, true
		}
	}
	return nil, false
}

// atEnd returns the bank at work in the truth of these ends of all ranges.
func (b Bank) atEnd(x end) *work {
	var t Truth
	for day := range len(b.Days) {
		d := b.Days[day]
		list := make([]int, len(d.Prices))
		for stock, r := range d.Prices {
			list[stock] = x.of(r)
		}
		t.Prices = append(t.Prices, list)
		t.Rates = append(t.Rates, x.of(d.Rate))
	}
	return b.begin(t)
}

// extremes returns the bank at work in both extremes.
func (b Bank) extremes() extremes {
	return extremes{low: b.atEnd(end{of: Range.low}), high: b.atEnd(end{of: Range.high})}
}

// debt returns the bounds of the debt: with greater prices, or rates, none is
// smaller.
func (x extremes) debt(s spot) Range {
	return Range{Lo: x.low.at(s).debt(), Hi: x.high.at(s).debt()}
}

// call returns the bounds of the call: it is the greater the more is owed, but the
// smaller the greater the prices of the day itself are.
func (x extremes) call(s spot) Range {
	least, most := x.low.at(s), x.high.at(s)
	least.value, most.value = most.value, least.value
	return Range{Lo: least.call(), Hi: most.call()}
}

// calls returns the bounds of the sum of the calls of the day. The truths in which
// a call is least, or greatest, are the same for all loans.
func (x extremes) calls(day int) Range {
	var sum Range
	for loan := range len(x.low.Loans) {
		call := x.call(spot{loan: loan, day: day})
		sum.Lo += call.Lo
		sum.Hi += call.Hi
	}
	return sum
}
