package coupon

import (
	"iter"
	"slices"

	"contango/lists"
)

// dates are the days on which a trade is sold, and registered.
type dates struct{ sold, registered int }

// course has the dates of each trade, if they are sold and delivered on some days.
type course []dates

// work is a company at work, with the factors of the days that were asked for.
type work struct {
	Company
	factors map[span]factor
}

// quantity is what is asked of a dividend: a number for each house, or for each trade.
type quantity struct {
	amounts  func(*work, course, Dividend) []int
	dividend int
}

// isBy reports whether the trade is registered on the day, or before.
func (d dates) isBy(day int) bool { return d.registered != Never && d.registered <= day }

// belongs reports whether the dividend belongs to the buyer of a trade of these dates.
func (d Dividend) belongs(x dates) bool { return x.sold < d.Ex }

// reaches reports whether the dividend is paid to the buyer of a trade of these dates.
func (d Dividend) reaches(x dates) bool { return x.isBy(d.Record) }

// begin returns the company at work.
func (c Company) begin() *work { return &work{Company: c, factors: map[span]factor{}} }

// dates returns the dates of a trade that is sold and delivered on these days.
func (c Company) dates(sold, delivered int) dates {
	return dates{sold: sold, registered: c.open(delivered)}
}

// course returns the dates of each trade in the truth.
func (c Company) course(t Truth) course {
	l := make(course, len(c.Trades))
	for i := range l {
		l[i] = c.dates(t.Sold[i], t.Delivered[i])
	}
	return l
}

// choices returns all dates that the trade can have.
func (c Company) choices(t Trade) iter.Seq[dates] {
	return func(yield func(dates) bool) {
		for sold := t.Sold.Lo; sold <= t.Sold.Hi; sold++ {
			for day := lists.Greatest(sold, t.Delivered.Lo); day <= t.Delivered.Hi; day++ {
				if !yield(c.dates(sold, day)) {
					return
				}
			}
		}
	}
}

// truths returns what happens to the trades in each truth.
func (w *work) truths() iter.Seq[course] {
	return func(yield func(course) bool) {
		l := make(course, len(w.Trades))
		var choose func(trade int) bool
		choose = func(trade int) bool {
			if trade == len(l) {
				return !w.isTrue(l) || yield(slices.Clone(l))
			}
			for d := range w.choices(w.Trades[trade]) {
				l[trade] = d
				if !choose(trade + 1) {
					return false
				}
			}
			return true
		}
		choose(0)
	}
}

// hasTruth reports whether the company has a truth.
func (c Company) hasTruth() bool {
	for range c.begin().truths() {
		return true
	}
	return false
}

// isTrue reports whether no house has fewer than 0 units at the end of a day. Only
// the days matter on which trades are registered: on others splits alone change
// the units, and none of them makes fewer than 0 of what is not.
func (w *work) isTrue(l course) bool {
	return lists.All(l, func(d dates) bool {
		return d.registered == Never || w.registered(l, d.registered).isThere()
	})
}

// factor returns the factor of the two days.
func (w *work) factor(days span) factor {
	f, ok := w.factors[days]
	if !ok {
		f = w.over(days)
		w.factors[days] = f
	}
	return f
}

// holding returns what each house has, in units of the day, of what it had at
// first, with the trades that count.
func (w *work) holding(l course, day int, counts func(dates) bool) holding {
	var h holding
	for house, shares := range w.Held {
		h[house] = w.factor(span{from: beginning, to: day}).units(shares)
	}
	for i, t := range w.Trades {
		if counts(l[i]) {
			h = h.after(t, w.factor(span{from: l[i].sold, to: day}).units(t.Shares))
		}
	}
	return h
}

// registered returns what each house has registered at the end of the day.
func (w *work) registered(l course, day int) holding {
	return w.holding(l, day, func(d dates) bool { return d.isBy(day) })
}

// paid returns for each house what it is paid.
func (w *work) paid(l course, d Dividend) []int {
	return w.registered(l, d.Record).money(d.Pence, w.Houses)
}

// rights returns for each house its right.
func (w *work) rights(l course, d Dividend) []int {
	return w.holding(l, d.Record, d.belongs).money(d.Pence, w.Houses)
}

// claims returns for each trade its claim.
func (w *work) claims(l course, d Dividend) []int {
	list := make([]int, len(l))
	for i, x := range l {
		if d.belongs(x) == d.reaches(x) {
			continue
		}
		list[i] = d.Pence * w.factor(span{from: x.sold, to: d.Record}).units(w.Trades[i].Shares)
		if d.reaches(x) {
			list[i] = -list[i]
		}
	}
	return list
}

// ask returns what is asked, if these are the dates of the trades.
func (w *work) ask(l course, q quantity) []int { return q.amounts(w, l, w.Dividends[q.dividend]) }

// bounds returns the bounds of what is asked, in these truths, of which there is
// at least one.
func (w *work) bounds(truths []course, q quantity) []Range {
	var list []Range
	for _, n := range w.ask(truths[0], q) {
		list = append(list, Range{Lo: n, Hi: n})
	}
	for _, l := range truths[1:] {
		for i, n := range w.ask(l, q) {
			list[i] = list[i].with(n)
		}
	}
	return list
}
