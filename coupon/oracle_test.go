package coupon_test

import (
	"cmp"
	"math/rand"
	"slices"

	"contango/api"
	"contango/coupon"
)

// The oracle follows the chapter's definitions day by day, with splits at the
// beginning of their days, and tries everything: all days of all trades, and all
// sets of trades that are left out.

// pick returns one of the elements.
func pick[T any](r *rand.Rand, list ...T) T { return list[r.Intn(len(list))] }

// between returns a number of the range.
func between(r *rand.Rand, low, high int) int { return low + r.Intn(high-low+1) }

// evening has all units at the end of a day, or before the first one: of what each
// house had at first, of what each has registered, and of each trade that is sold.
type evening struct{ first, registered, traded []int }

// split multiplies and divides all units. They must stay whole.
func (n evening) split(s coupon.Split) {
	for _, list := range [][]int{n.first, n.registered, n.traded} {
		for i := range list {
			if list[i]*s.Num%s.Den != 0 {
				panic("units are not whole")
			}
			list[i] = list[i] * s.Num / s.Den
		}
	}
}

// copyOf returns the same in memory of its own.
func (n evening) copyOf() evening {
	return evening{slices.Clone(n.first), slices.Clone(n.registered), slices.Clone(n.traded)}
}

// registeredOn returns the day on which a trade is registered that is delivered on
// this day, or -1.
func registeredOn(c coupon.Company, delivered int) int {
	day := delivered
	for k := 0; k < len(c.Closed); k++ {
		if c.Closed[k].Lo <= day && day <= c.Closed[k].Hi {
			day, k = c.Closed[k].Hi+1, -1
		}
	}
	if day > 11 {
		return -1
	}
	return day
}

// play returns the ends of all days, in the truth.
func play(c coupon.Company, t coupon.Truth) []evening {
	now := evening{traded: make([]int, len(c.Trades))}
	for _, shares := range c.Held {
		now.first = append(now.first, shares*720)
	}
	now.registered = slices.Clone(now.first)
	var list []evening
	for day := 0; day <= 11; day++ {
		for _, s := range c.Splits {
			if s.Day == day {
				now.split(s)
			}
		}
		for i, x := range c.Trades {
			if t.Sold[i] == day {
				now.traded[i] = x.Shares * 720
			}
		}
		for i, x := range c.Trades {
			if registeredOn(c, t.Delivered[i]) == day {
				now.registered[x.Seller] -= now.traded[i]
				now.registered[x.Buyer] += now.traded[i]
			}
		}
		list = append(list, now.copyOf())
	}
	return list
}

// isTruth reports whether it is one of the company.
func isTruth(c coupon.Company, t coupon.Truth) bool {
	for i, x := range c.Trades {
		sold, delivered := t.Sold[i], t.Delivered[i]
		if sold < x.Sold.Lo || sold > x.Sold.Hi || delivered < x.Delivered.Lo || delivered > x.Delivered.Hi || delivered < sold {
			return false
		}
	}
	for _, n := range play(c, t) {
		for _, units := range n.registered {
			if units < 0 {
				return false
			}
		}
	}
	return true
}

// money is what is paid of a dividend to each house, what each trade's seller owes
// to the buyer, and what each house's right is.
type money struct{ paid, claims, rights []int }

// isSame reports whether both are the same.
func (m money) isSame(n money) bool {
	return slices.Equal(m.paid, n.paid) && slices.Equal(m.claims, n.claims) && slices.Equal(m.rights, n.rights)
}

// moneyOf returns what is so of the dividend, in the truth.
func moneyOf(c coupon.Company, t coupon.Truth, d coupon.Dividend) money {
	var m money
	end := play(c, t)[d.Record]
	for house := range c.Houses {
		m.paid = append(m.paid, d.Pence*end.registered[house])
		units := end.first[house]
		for i, x := range c.Trades {
			if t.Sold[i] < d.Ex && x.Buyer == house {
				units += end.traded[i]
			}
			if t.Sold[i] < d.Ex && x.Seller == house {
				units -= end.traded[i]
			}
		}
		m.rights = append(m.rights, d.Pence*units)
	}
	for i := range c.Trades {
		claim := 0
		day := registeredOn(c, t.Delivered[i])
		isRegistered := day != -1 && day <= d.Record
		if t.Sold[i] < d.Ex && !isRegistered {
			claim = d.Pence * end.traded[i]
		}
		if !(t.Sold[i] < d.Ex) && isRegistered {
			claim = -d.Pence * end.traded[i]
		}
		m.claims = append(m.claims, claim)
	}
	return m
}

// eachChoice calls with each choice of days for all trades, until the call
// returns false.
func eachChoice(c coupon.Company, call func(t coupon.Truth) bool) {
	t := coupon.Truth{Sold: make([]int, len(c.Trades)), Delivered: make([]int, len(c.Trades))}
	var choose func(i int) bool
	choose = func(i int) bool {
		if i == len(c.Trades) {
			return call(t)
		}
		for day := c.Trades[i].Sold.Lo; day <= c.Trades[i].Sold.Hi; day++ {
			for other := c.Trades[i].Delivered.Lo; other <= c.Trades[i].Delivered.Hi; other++ {
				t.Sold[i], t.Delivered[i] = day, other
				if !choose(i + 1) {
					return false
				}
			}
		}
		return true
	}
	choose(0)
}

// allTruths returns all truths of the company.
func allTruths(c coupon.Company) []coupon.Truth {
	var list []coupon.Truth
	eachChoice(c, func(t coupon.Truth) bool {
		if isTruth(c, t) {
			list = append(list, copyOfTruth(t))
		}
		return true
	})
	return list
}

// hasTruth reports whether the company has one.
func hasTruth(c coupon.Company) bool {
	found := false
	eachChoice(c, func(t coupon.Truth) bool {
		found = isTruth(c, t)
		return !found
	})
	return found
}

// without returns the company without the trades of these indexes.
func without(c coupon.Company, left []int) coupon.Company {
	c = copyOf(c)
	for _, i := range slices.Backward(left) {
		c.Trades = slices.Delete(c.Trades, i, i+1)
	}
	return c
}

// allSets returns all increasing lists of trades, the shorter ones first, those of
// one length in lexicographic order.
func allSets(c coupon.Company) [][]int {
	var list [][]int
	for mask := range 1 << len(c.Trades) {
		var set []int
		for i := range c.Trades {
			if mask>>i&1 == 1 {
				set = append(set, i)
			}
		}
		list = append(list, set)
	}
	slices.SortFunc(list, func(a, b []int) int { return cmp.Or(len(a)-len(b), slices.Compare(a, b)) })
	return list
}

// smallestSet returns the first set that can be left out.
func smallestSet(c coupon.Company) []int {
	for _, set := range allSets(c) {
		if hasTruth(without(c, set)) {
			return set
		}
	}
	panic("without all trades there is a truth")
}

// sample is a valid company with at least one dividend, and with all its truths.
type sample struct {
	c      coupon.Company
	truths []coupon.Truth
}

// someDays returns a short range of days that has the day.
func someDays(r *rand.Rand, day int) coupon.Range {
	low := max(0, day-pick(r, 0, 0, 0, 1, 2))
	return to(low, min(api.MaxCouponDay, max(day, low+pick(r, 0, 0, 1, 2))))
}

// someTrade returns a trade of a company of two houses at least, mostly of no more
// shares than the seller has at first, or than it buys.
func someTrade(r *rand.Rand, c coupon.Company) coupon.Trade {
	x := coupon.Trade{Seller: pick(r, r.Intn(c.Houses), slices.Index(c.Held, slices.Max(c.Held)))}
	most := c.Held[x.Seller]
	day := between(r, 0, api.MaxCouponDay)
	if len(c.Trades) > 0 && r.Intn(3) == 0 {
		y := pick(r, c.Trades...)
		x.Seller, most, day = y.Buyer, y.Shares, min(api.MaxCouponDay, y.Sold.Hi+r.Intn(3))
	}
	x.Buyer = (x.Seller + between(r, 1, c.Houses-1)) % c.Houses
	x.Shares = pick(r, most, most/2, most/2, most/3, most/4, most+1, between(r, 1, api.MaxCouponShares))
	x.Shares = min(max(x.Shares, 1), api.MaxCouponShares)
	x.Sold = someDays(r, day)
	x.Delivered = someDays(r, min(api.MaxCouponDay, day+pick(r, 0, 1, 1, 2, 3)))
	return x
}

// someCompany returns any valid company.
func someCompany(r *rand.Rand) coupon.Company {
	c := coupon.Company{Houses: pick(r, 1, 2, 2, 3, 3, 4)}
	for range c.Houses {
		c.Held = append(c.Held, pick(r, 0, between(r, 0, 9), between(r, 0, 20), between(r, 0, api.MaxCouponShares)))
	}
	for range pick(r, 0, 1, 1, 2, 2, 3, 3, 4) {
		if c.Houses > 1 {
			c.Trades = append(c.Trades, someTrade(r, c))
		}
	}
	for range between(r, 1, api.MaxCouponDividends) {
		ex := between(r, 0, api.MaxCouponDay)
		if len(c.Trades) > 0 && r.Intn(3) > 0 {
			ex = pick(r, c.Trades...).Sold.Hi
		}
		record := min(api.MaxCouponDay, ex+pick(r, 0, 0, 1, 2, 5))
		c.Dividends = append(c.Dividends, coupon.Dividend{Ex: ex, Record: record, Pence: pick(r, 0, 1, 2, 3, 7, 50)})
	}
	days := r.Perm(api.MaxCouponDay + 1)[:pick(r, 0, 1, 1, 2)]
	slices.Sort(days)
	for _, day := range days {
		c.Splits = append(c.Splits, coupon.Split{Day: day, Num: between(r, 1, 6), Den: between(r, 1, 4)})
	}
	for range pick(r, 0, 1, 1, 2) {
		low := between(r, 0, api.MaxCouponDay)
		c.Closed = append(c.Closed, to(low, min(api.MaxCouponDay, low+pick(r, 0, 1, 2, 6))))
	}
	return c
}

// countChoices returns how many choices of days there are.
func countChoices(c coupon.Company) int {
	many := 1
	for _, x := range c.Trades {
		many *= (x.Sold.Hi - x.Sold.Lo + 1) * (x.Delivered.Hi - x.Delivered.Lo + 1)
	}
	return many
}

// someSample returns a sample with few enough choices to be gone through.
func someSample(r *rand.Rand, most int) sample {
	for {
		if c := someCompany(r); countChoices(c) <= most {
			return sample{c, allTruths(c)}
		}
	}
}

// samples returns so many samples, always the same ones.
func samples(many int) []sample {
	r := rand.New(rand.NewSource(1899))
	var list []sample
	for range many {
		list = append(list, someSample(r, 300))
	}
	return list
}

// trueSamples returns those that have a truth.
func trueSamples(many int) []sample {
	return slices.DeleteFunc(samples(many), func(s sample) bool { return len(s.truths) == 0 })
}

// bounds are those of money.
type bounds struct{ paid, claims, rights []coupon.Range }

// isSame reports whether both are the same.
func (b bounds) isSame(x bounds) bool {
	return slices.Equal(b.paid, x.paid) && slices.Equal(b.claims, x.claims) && slices.Equal(b.rights, x.rights)
}

// isIn reports whether no bounds are wider than those of the other one.
func (b bounds) isIn(x bounds) bool {
	within := func(l, k coupon.Range) bool { return l.Lo >= k.Lo && l.Hi <= k.Hi }
	return slices.EqualFunc(b.paid, x.paid, within) && slices.EqualFunc(b.claims, x.claims, within) && slices.EqualFunc(b.rights, x.rights, within)
}

// boundsOf returns the bounds of the dividend, in all truths of the sample.
func (s sample) boundsOf(d coupon.Dividend) bounds {
	var paid, claims, rights [][]int
	for _, t := range s.truths {
		m := moneyOf(s.c, t, d)
		paid, claims, rights = append(paid, m.paid), append(claims, m.claims), append(rights, m.rights)
	}
	return bounds{ends(paid), ends(claims), ends(rights)}
}

// ends returns the range of the first numbers of all lists, of the second ones, and so on.
func ends(all [][]int) []coupon.Range {
	var list []coupon.Range
	for i := range all[0] {
		x := to(all[0][i], all[0][i])
		for _, l := range all {
			x = to(min(x.Lo, l[i]), max(x.Hi, l[i]))
		}
		list = append(list, x)
	}
	return list
}
