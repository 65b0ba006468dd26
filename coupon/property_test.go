package coupon_test

import (
	"math/rand"
	"reflect"
	"slices"
	"testing"

	"contango/api"
	"contango/coupon"
)

// whole calls Whole, which must have no error, and returns the units of each house.
func whole(t *testing.T, c coupon.Company, truth coupon.Truth, day int) []int {
	t.Helper()
	shares, units, e := coupon.Whole(c, truth, day)
	if e != api.OK || len(shares) != c.Houses || len(units) != c.Houses {
		t.Fatalf("Whole of %v, %v, %d: %v, %v, %v", c, truth, day, shares, units, e)
	}
	var list []int
	for house, n := range units {
		if n < 0 || n >= 720 || shares[house] < 0 {
			t.Fatalf("Whole of %v, %v, %d: %v, %v", c, truth, day, shares, units)
		}
		list = append(list, shares[house]*720+n)
	}
	return list
}

// leave calls Leave, which must have no error.
func leave(t *testing.T, c coupon.Company) []int {
	t.Helper()
	l, e := coupon.Leave(c)
	if e != api.OK {
		t.Fatalf("Leave of %v: %v", c, e)
	}
	return l
}

// registered calls Registered, which must have no error. Never is the last day.
func registered(t *testing.T, c coupon.Company, delivered int) int {
	t.Helper()
	day, e := coupon.Registered(c, delivered)
	if e != api.OK {
		t.Fatalf("Registered of %v, %d: %v", c, delivered, e)
	}
	if day == coupon.Never {
		return api.MaxCouponDay + 1
	}
	return day
}

// total returns the sum of the numbers.
func total(list []int) (sum int) {
	for _, n := range list {
		sum += n
	}
	return sum
}

// TestP7_1Oracle compares Registered and ProveTruth with the definitions.
func TestP7_1Oracle(t *testing.T) {
	proved, days := map[bool]int{}, map[bool]int{}
	for _, s := range samples(1500) {
		for day := range api.MaxCouponDay + 1 {
			want := registeredOn(s.c, day)
			if n, e := coupon.Registered(s.c, day); n != want || e != api.OK {
				t.Fatalf("Registered of %v, %d: %d, %v; want %d", s.c, day, n, e, want)
			}
			days[want == day]++
		}
		eachChoice(s.c, func(truth coupon.Truth) bool {
			want := isTruth(s.c, truth)
			if coupon.ProveTruth(s.c, truth) != want {
				t.Fatalf("ProveTruth of %v, %v: %v", s.c, truth, !want)
			}
			proved[want]++
			return true
		})
	}
	if proved[true] < 2000 || proved[false] < 2000 || days[false] < 2000 {
		t.Errorf("proved: %v; registered when delivered: %v", proved, days)
	}
}

// TestP7_2Oracle compares Whole with what happens day by day.
func TestP7_2Oracle(t *testing.T) {
	r := rand.New(rand.NewSource(2))
	parts, moved := 0, 0
	for _, s := range trueSamples(2500) {
		truth := pick(r, s.truths...)
		for day, end := range play(s.c, truth) {
			got := whole(t, s.c, truth, day)
			if !slices.Equal(got, end.registered) {
				t.Fatalf("Whole of %v, %v, %d: %v; want %v", s.c, truth, day, got, end.registered)
			}
			if slices.ContainsFunc(got, func(n int) bool { return n%720 > 0 }) {
				parts++
			}
			if !slices.Equal(end.registered, end.first) {
				moved++
			}
		}
	}
	if parts < 2000 || moved < 2000 {
		t.Errorf("fractions: %d; shares of others: %d", parts, moved)
	}
}

// TestP7_3Oracle compares Paid, Claims and Rights with the definitions.
func TestP7_3Oracle(t *testing.T) {
	r := rand.New(rand.NewSource(3))
	owed, due, below := 0, 0, 0
	for _, s := range trueSamples(4000) {
		for dividend, d := range s.c.Dividends {
			truth := pick(r, s.truths...)
			want := moneyOf(s.c, truth, d)
			if got := allMoney(t, s.c, truth, dividend); !got.isSame(want) {
				t.Fatalf("Paid, Claims, Rights of %v, %v, %d: %v; want %v", s.c, truth, dividend, got, want)
			}
			for _, claim := range want.claims {
				owed += max(0, min(claim, 1))
				due -= min(0, max(claim, -1))
			}
			if slices.Min(want.rights) < 0 {
				below++
			}
		}
	}
	if owed < 300 || due < 300 || below < 15 {
		t.Errorf("owed to buyers: %d, to sellers: %d; rights below 0: %d", owed, due, below)
	}
}

// TestP7_4Oracle compares Bounds with all truths.
func TestP7_4Oracle(t *testing.T) {
	unsure, failed := 0, 0
	for _, s := range samples(2500) {
		for dividend, d := range s.c.Dividends {
			if len(s.truths) == 0 {
				failed++
				paid, claims, rights, e := coupon.Bounds(s.c, dividend)
				if paid != nil || claims != nil || rights != nil || e != api.ErrFail {
					t.Fatalf("Bounds of %v, %d: %v, %v, %v, %v", s.c, dividend, paid, claims, rights, e)
				}
				continue
			}
			got, want := allBounds(t, s.c, dividend), s.boundsOf(d)
			if !got.isSame(want) {
				t.Fatalf("Bounds of %v, %d: %v; want %v", s.c, dividend, got, want)
			}
			if slices.ContainsFunc(slices.Concat(got.paid, got.claims, got.rights), func(x coupon.Range) bool { return x.Lo < x.Hi }) {
				unsure++
			}
		}
	}
	if unsure < 500 || failed < 500 {
		t.Errorf("unsure: %d; without a truth: %d", unsure, failed)
	}
}

// TestP7_5Oracle compares Leave with all sets.
func TestP7_5Oracle(t *testing.T) {
	lengths := map[int]int{}
	for _, s := range samples(1500) {
		want := smallestSet(s.c)
		if l := leave(t, s.c); !slices.Equal(l, want) {
			t.Fatalf("Leave of %v: %v; want %v", s.c, l, want)
		}
		lengths[len(want)]++
	}
	if lengths[0] < 300 || lengths[1] < 150 || lengths[2] < 50 || lengths[3] < 10 {
		t.Errorf("lengths of the smallest sets: %v", lengths)
	}
}

func TestP7_6LastFraction(t *testing.T) {
	r := rand.New(rand.NewSource(6))
	claims := 0
	for _, s := range trueSamples(1500) {
		truth := pick(r, s.truths...)
		for dividend, d := range s.c.Dividends {
			m := allMoney(t, s.c, truth, dividend)
			sum := slices.Clone(m.paid)
			for i, x := range s.c.Trades {
				sum[x.Buyer] += m.claims[i]
				sum[x.Seller] -= m.claims[i]
			}
			units := d.Pence * total(whole(t, s.c, truth, d.Record))
			if !slices.Equal(sum, m.rights) || total(m.paid) != units || total(m.rights) != units {
				t.Fatalf("%v, %v, the dividend %d: %v; %d in all", s.c, truth, dividend, m, units)
			}
			if slices.ContainsFunc(m.claims, func(n int) bool { return n != 0 }) {
				claims++
			}
		}
	}
	if claims < 200 {
		t.Errorf("only %d with claims", claims)
	}
}

// TestP7_7EachTruth: all numbers are within their bounds, and the ends are reached.
func TestP7_7EachTruth(t *testing.T) {
	for _, s := range trueSamples(600) {
		for dividend := range s.c.Dividends {
			got := allBounds(t, s.c, dividend)
			var paid, claims, rights [][]int
			for _, truth := range s.truths {
				m := allMoney(t, s.c, truth, dividend)
				paid, claims, rights = append(paid, m.paid), append(claims, m.claims), append(rights, m.rights)
			}
			if want := (bounds{ends(paid), ends(claims), ends(rights)}); !got.isSame(want) {
				t.Fatalf("Bounds of %v, %d: %v; in the truths %v", s.c, dividend, got, want)
			}
		}
	}
}

// TestP7_8ClosedBooks: with other closed days, and other days of delivery, rights
// are the same if the days of sale are.
func TestP7_8ClosedBooks(t *testing.T) {
	r := rand.New(rand.NewSource(8))
	others := 0
	for _, s := range trueSamples(1500) {
		c := copyOf(s.c)
		c.Closed = someCompany(r).Closed
		truth := pick(r, s.truths...)
		for _, other := range allTruths(c) {
			if !slices.Equal(other.Sold, truth.Sold) {
				continue
			}
			for dividend := range c.Dividends {
				was, is := allMoney(t, s.c, truth, dividend), allMoney(t, c, other, dividend)
				if !slices.Equal(was.rights, is.rights) {
					t.Fatalf("Rights of %v, %v: %v; of %v, %v: %v", s.c, truth, was, c, other, is)
				}
				if !slices.Equal(was.claims, is.claims) {
					others++
				}
			}
		}
	}
	if others < 200 {
		t.Errorf("only %d other claims", others)
	}
}

func TestP7_9Splits(t *testing.T) {
	r := rand.New(rand.NewSource(9))
	for _, s := range trueSamples(1000) {
		truth := pick(r, s.truths...)
		for day := range api.MaxCouponDay + 1 {
			num, den := 1, 1
			for _, x := range s.c.Splits {
				if x.Day <= day {
					num, den = num*x.Num, den*x.Den
				}
			}
			if got := total(whole(t, s.c, truth, day)); got*den != total(s.c.Held)*720*num {
				t.Fatalf("Whole of %v, %v, %d: %d units in all", s.c, truth, day, got)
			}
		}
	}
}

// TestP7_9NoSplit: a split of which Num and Den are equal changes nothing.
func TestP7_9NoSplit(t *testing.T) {
	r := rand.New(rand.NewSource(90))
	more := 0
	for _, s := range samples(1000) {
		day, n := between(r, 0, api.MaxCouponDay), between(r, 1, 4)
		isAfter := func(x coupon.Split) bool { return x.Day >= day }
		at := slices.IndexFunc(s.c.Splits, isAfter)
		if len(s.c.Splits) == api.MaxCouponSplits || at >= 0 && s.c.Splits[at].Day == day {
			continue
		}
		if at < 0 {
			at = len(s.c.Splits)
		}
		with := copyOf(s.c)
		with.Splits = slices.Insert(with.Splits, at, coupon.Split{Day: day, Num: n, Den: n})
		a := args{day: day}
		if len(s.truths) > 0 {
			a.t = pick(r, s.truths...)
			more++
		}
		if was, is := callAll(s.c, a), callAll(with, a); !isSame(was, is) {
			t.Fatalf("%v, %v: %v; %v: %v", s.c, a, was, with, is)
		}
	}
	if more < 200 {
		t.Errorf("only %d with a truth", more)
	}
}

func TestP7_10Units(t *testing.T) {
	r := rand.New(rand.NewSource(10))
	for _, s := range trueSamples(1000) {
		truth := pick(r, s.truths...)
		for dividend, d := range s.c.Dividends {
			units := whole(t, s.c, truth, d.Record)
			for house := range units {
				units[house] *= d.Pence
			}
			if m := allMoney(t, s.c, truth, dividend); !slices.Equal(m.paid, units) {
				t.Fatalf("Paid of %v, %v, %d: %v; want %v", s.c, truth, dividend, m.paid, units)
			}
		}
	}
}

// TestP7_11LeftOut tries all lists that are shorter than the smallest set, and
// those of its length that are before it.
func TestP7_11LeftOut(t *testing.T) {
	some := 0
	for _, s := range samples(1500) {
		c := copyOf(s.c)
		c.Dividends = c.Dividends[:1]
		set := leave(t, c)
		if _, _, _, e := coupon.Bounds(without(c, set), 0); e != api.OK {
			t.Fatalf("Bounds of %v without %v: %v", c, set, e)
		}
		all := allSets(c)
		at := slices.IndexFunc(all, func(l []int) bool { return slices.Equal(l, set) })
		for _, l := range all[:at] {
			if _, _, _, e := coupon.Bounds(without(c, l), 0); e != api.ErrFail {
				t.Fatalf("Leave of %v: %v; Bounds without %v: %v", c, set, l, e)
			}
			some++
		}
	}
	if some < 1000 {
		t.Errorf("only %d lists", some)
	}
}

// wider returns the range with a day more, or a few, at one end or both.
func wider(r *rand.Rand, x coupon.Range) coupon.Range {
	low := between(r, max(0, x.Hi-api.MaxCouponWide), x.Lo)
	return to(low, between(r, x.Hi, min(api.MaxCouponDay, low+api.MaxCouponWide)))
}

func TestP7_12Wider(t *testing.T) {
	r := rand.New(rand.NewSource(12))
	more, fewer := 0, 0
	for _, s := range samples(4000) {
		if len(s.c.Trades) == 0 {
			continue
		}
		with := copyOf(s.c)
		x := &with.Trades[r.Intn(len(with.Trades))]
		x.Sold, x.Delivered = wider(r, x.Sold), wider(r, x.Delivered)
		was, is := leave(t, s.c), leave(t, with)
		if len(is) > len(was) {
			t.Fatalf("Leave of %v: %v; of %v: %v", s.c, was, with, is)
		}
		fewer += len(was) - len(is)
		if len(was) > 0 {
			continue
		}
		for dividend := range s.c.Dividends {
			before, after := allBounds(t, s.c, dividend), allBounds(t, with, dividend)
			if !before.isIn(after) {
				t.Fatalf("Bounds of %v, %d: %v; of %v: %v", s.c, dividend, before, with, after)
			}
			if !before.isSame(after) {
				more++
			}
		}
	}
	if more < 200 || fewer < 20 {
		t.Errorf("wider: %d; fewer to leave out: %d", more, fewer)
	}
}

// TestP7_13NoClaims: dividends before all trades, and after them.
func TestP7_13NoClaims(t *testing.T) {
	r := rand.New(rand.NewSource(13))
	before, after := 0, 0
	for _, s := range trueSamples(3000) {
		truth := pick(r, s.truths...)
		first, last := api.MaxCouponDay+1, 0
		for i, day := range truth.Delivered {
			first, last = min(first, truth.Sold[i]), max(last, registered(t, s.c, day)+1)
		}
		for ex := range api.MaxCouponDay + 1 {
			for record := ex; record <= api.MaxCouponDay; record++ {
				if len(truth.Sold) == 0 || ex < last && record >= first {
					continue
				}
				c := pays(s.c, ex, record, 7)
				m := allMoney(t, c, truth, 0)
				if slices.ContainsFunc(m.claims, func(n int) bool { return n != 0 }) || !slices.Equal(m.paid, m.rights) {
					t.Fatalf("%v, %v: %v", c, truth, m)
				}
				if ex >= last {
					after++
				} else {
					before++
				}
			}
		}
	}
	if before < 500 || after < 500 {
		t.Errorf("before all trades: %d; after them: %d", before, after)
	}
}

func TestP7_14MoreShares(t *testing.T) {
	r := rand.New(rand.NewSource(14))
	fewer, truths := 0, 0
	for _, s := range samples(1500) {
		with := copyOf(s.c)
		house := r.Intn(s.c.Houses)
		with.Held[house] = between(r, with.Held[house], api.MaxCouponShares)
		was, is := leave(t, s.c), leave(t, with)
		if len(is) > len(was) {
			t.Fatalf("Leave of %v: %v; of %v: %v", s.c, was, with, is)
		}
		fewer += len(was) - len(is)
		for _, truth := range s.truths {
			if !coupon.ProveTruth(with, truth) {
				t.Fatalf("%v is a truth of %v, and none of %v", truth, s.c, with)
			}
			truths++
		}
	}
	if fewer < 100 || truths < 1000 {
		t.Errorf("fewer to leave out: %d; truths: %d", fewer, truths)
	}
}

func TestP7_15Registered(t *testing.T) {
	r := rand.New(rand.NewSource(15))
	later := 0
	for _, s := range samples(1000) {
		with := copyOf(s.c)
		with.Closed = append(with.Closed, someDays(r, between(r, 0, api.MaxCouponDay)))
		before := 0
		for day := range api.MaxCouponDay + 1 {
			is := registered(t, s.c, day)
			if is < before || is < day {
				t.Fatalf("Registered of %v, %d: %d; a day before %d", s.c, day, is, before)
			}
			before = is
			if len(with.Closed) > api.MaxCouponClosed {
				continue
			}
			if more := registered(t, with, day); more < is {
				t.Fatalf("Registered of %v, %d: %d; of %v: %d", s.c, day, is, with, more)
			} else if more > is {
				later++
			}
		}
	}
	if later < 500 {
		t.Errorf("only %d later", later)
	}
}

// TestP7AnyOrder: closed ranges lead to the same in whatever order they are listed,
// and so do trades, except for their indexes.
func TestP7AnyOrder(t *testing.T) {
	r := rand.New(rand.NewSource(70))
	for _, s := range samples(1000) {
		a := args{day: between(r, 0, api.MaxCouponDay)}
		if len(s.truths) > 0 {
			a.t = pick(r, s.truths...)
		}
		other := copyOf(s.c)
		slices.Reverse(other.Closed)
		if was, is := callAll(s.c, a), callAll(other, a); !reflect.DeepEqual(was, is) {
			t.Fatalf("%v: %v; %v: %v", s.c, was, other, is)
		}
		slices.Reverse(other.Trades)
		if was, is := leave(t, s.c), leave(t, other); len(was) != len(is) {
			t.Fatalf("Leave of %v: %v; of %v: %v", s.c, was, other, is)
		}
		if len(s.truths) == 0 {
			continue
		}
		was, is := allBounds(t, s.c, 0), allBounds(t, other, 0)
		slices.Reverse(is.claims)
		if !was.isSame(is) {
			t.Fatalf("Bounds of %v: %v; of %v: %v", s.c, was, other, is)
		}
	}
}
