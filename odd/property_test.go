package odd_test

import (
	"math/rand"
	"slices"
	"testing"

	"contango/api"
	"contango/odd"
	"contango/tape"
)

// TestP4_1Oracle compares Play and Has with the definitions, in truths, and in
// what is nearly one; and ProveTruth (P4.6).
func TestP4_1Oracle(t *testing.T) {
	r := rand.New(rand.NewSource(1))
	is := map[bool]int{}
	for _, s := range samples(600) {
		if len(s.prices) == 0 || len(s.minutes) == 0 {
			continue
		}
		for range 5 {
			truth := s.truth(r)
			list := pick(r, truth.Prices, truth.Minutes, truth.Orders)
			list[r.Intn(len(list))] += pick(r, 0, 0, 0, 1, -1, 80, -80)
			isTruth := s.isTruth(truth)
			is[isTruth]++
			fills, shares, money := s.played(truth)
			want := api.OK
			if !isTruth {
				fills, shares, money, want = nil, nil, 0, api.ErrRange
			}
			if l, e := odd.Play(s.d, truth); !slices.Equal(l, fills) || e != want {
				t.Fatalf("Play of %v, %v: %v, %v; want %v, %v", s.d, truth, l, e, fills, want)
			}
			if l, m, e := odd.Has(s.d, truth); !slices.Equal(l, shares) || m != money || e != want {
				t.Fatalf("Has of %v, %v: %v, %v, %v; want %v, %v, %v", s.d, truth, l, m, e, shares, money, want)
			}
			if got := odd.ProveTruth(s.d, truth); got != isTruth {
				t.Fatalf("ProveTruth of %v, %v: %v", s.d, truth, got)
			}
		}
	}
	if is[true] < 500 || is[false] < 500 {
		t.Errorf("truths, and others: %v", is)
	}
}

// isTruth reports whether the truth is one of the sample.
func (s sample) isTruth(t odd.Truth) bool {
	has := func(all [][]int, list []int) bool {
		return slices.ContainsFunc(all, func(x []int) bool { return slices.Equal(x, list) })
	}
	for i, o := range s.d.Orders {
		if t.Orders[i] < o.Minute.Lo || t.Orders[i] > o.Minute.Hi {
			return false
		}
	}
	return has(s.prices, t.Prices) && has(s.minutes, t.Minutes)
}

// played returns what is due of Play and Has.
func (s sample) played(t odd.Truth) (fills []odd.Fill, shares []int, money int) {
	shares = make([]int, len(s.d.Board.Stocks))
	for i, o := range s.d.Orders {
		f := s.fillOf(o, t.Orders[i], t.Prices, t.Minutes)
		fills = append(fills, f)
		if f.Sale != odd.None && o.Buy {
			shares[o.Stock] -= o.Number
			money += o.Number * f.Price
		}
		if f.Sale != odd.None && !o.Buy {
			shares[o.Stock] += o.Number
			money -= o.Number * f.Price
		}
	}
	return fills, shares, money
}

// asked is what the calls return of all orders of a desk.
type asked struct {
	sales    [][]int
	bounds   []odd.Range
	verdicts []int
}

// ask calls Sales, Bounds and Verdicts, which must have no error.
func ask(t *testing.T, d odd.Desk) asked {
	t.Helper()
	bounds, e := odd.Bounds(d)
	verdicts, f := odd.Verdicts(d)
	if e != api.OK || f != api.OK || len(bounds) != len(d.Orders) || len(verdicts) != len(d.Orders) {
		t.Fatalf("Bounds, Verdicts of %v: %v, %v; %v, %v", d, bounds, e, verdicts, f)
	}
	a := asked{bounds: bounds, verdicts: verdicts}
	for i := range d.Orders {
		sales, e := odd.Sales(d, i)
		if e != api.OK {
			t.Fatalf("Sales of %v, %d: %v", d, i, e)
		}
		a.sales = append(a.sales, sales)
	}
	return a
}

// TestP4_2Oracle, of P4.3 to P4.5, P4.7 and P4.8, too, compares all that is
// returned of orders with all truths.
func TestP4_2Oracle(t *testing.T) {
	verdicts, several := map[int]int{}, map[bool]int{}
	for _, s := range samples(1500) {
		if len(s.prices) == 0 || len(s.minutes) == 0 {
			t.Fatalf("%v has no truth", s.d)
		}
		got := ask(t, s.d)
		for i, o := range s.d.Orders {
			want := s.dueOf(o)
			verdicts[want.verdict]++
			several[len(want.sales) > 1 && o.Limit > 0]++
			if !slices.Equal(got.sales[i], want.sales) || got.bounds[i] != want.bounds || got.verdicts[i] != want.verdict {
				t.Fatalf("%v, %d: %v, %v, %v; want %v", s.d, i, got.sales[i], got.bounds[i], got.verdicts[i], want)
			}
			checkShow(t, s.d, i, want.verdict == odd.Never, want.bounds)
		}
	}
	if verdicts[odd.Always] < 300 || verdicts[odd.Never] < 300 || verdicts[odd.Open] < 300 || several[true] < 300 {
		t.Errorf("verdicts %v; several sales within a limit %v", verdicts, several)
	}
}

// TestP4_7InEachTruth plays many truths of each sample.
func TestP4_7InEachTruth(t *testing.T) {
	for _, s := range samples(150) {
		got := ask(t, s.d)
		r := rand.New(rand.NewSource(7))
		for range 100 {
			truth := s.truth(r)
			fills, e := odd.Play(s.d, truth)
			if e != api.OK {
				t.Fatalf("Play of %v, %v: %v", s.d, truth, e)
			}
			for i, f := range fills {
				isFilled := f.Sale != odd.None
				isIn := f.Price >= got.bounds[i].Lo && f.Price <= got.bounds[i].Hi && slices.Contains(got.sales[i], f.Sale)
				if isFilled && !isIn || !isFilled && f.Price != 0 {
					t.Fatalf("Play of %v, %v: %v; bounds %v, sales %v", s.d, truth, fills, got.bounds, got.sales)
				}
				if got.verdicts[i] == odd.Always && !isFilled || got.verdicts[i] == odd.Never && isFilled {
					t.Fatalf("Play of %v, %v: %v; verdicts %v", s.d, truth, fills, got.verdicts)
				}
			}
		}
	}
}

// TestP4_8TheEnds: at both ends of the bounds the order is filled by one of Sales.
func TestP4_8TheEnds(t *testing.T) {
	for _, s := range samples(600) {
		got := ask(t, s.d)
		for i := range s.d.Orders {
			for high, price := range map[bool]int{false: got.bounds[i].Lo, true: got.bounds[i].Hi} {
				truth, e := odd.Show(s.d, i, high)
				if (e == api.OK) != (len(got.sales[i]) > 0) {
					t.Fatalf("Show of %v, %d, %v: %v; sales %v", s.d, i, high, e, got.sales[i])
				}
				if e != api.OK {
					continue
				}
				fills, e := odd.Play(s.d, truth)
				if e != api.OK || fills[i].Price != price || !slices.Contains(got.sales[i], fills[i].Sale) {
					t.Fatalf("Show of %v, %d, %v: %v: %v, %v; bounds %v, sales %v", s.d, i, high, truth, fills, e, got.bounds[i], got.sales[i])
				}
			}
		}
	}
}

// changed returns the desk with orders that are changed, one by one.
func changed(d odd.Desk, change func(o *odd.Order)) odd.Desk {
	d.Orders = slices.Clone(d.Orders)
	for i := range d.Orders {
		change(&d.Orders[i])
	}
	return d
}

// play returns the fills in a truth, which must be one of the desk.
func play(t *testing.T, d odd.Desk, truth odd.Truth) []odd.Fill {
	t.Helper()
	fills, e := odd.Play(d, truth)
	if e != api.OK {
		t.Fatalf("Play of %v, %v: %v", d, truth, e)
	}
	return fills
}

func TestP4_9Fee(t *testing.T) {
	r := rand.New(rand.NewSource(9))
	for _, s := range samples(600) {
		more := s.d
		more.Fee++
		if more.Fee > api.MaxOddFee {
			continue
		}
		before, after := ask(t, s.d), ask(t, more)
		for i, o := range s.d.Orders {
			if o.Limit > 0 && before.verdicts[i] == odd.Never && after.verdicts[i] != odd.Never {
				t.Fatalf("%v, %d: %v; with a greater fee %v", s.d, i, before, after)
			}
		}
		for range 10 {
			truth := s.truth(r)
			was, is := play(t, s.d, truth), play(t, more, truth)
			for i, o := range s.d.Orders {
				want := was[i]
				if o.Buy && want.Sale != odd.None {
					want.Price++
				}
				if !o.Buy && want.Price > 0 {
					want.Price--
				}
				if o.Limit == 0 && is[i] != want {
					t.Fatalf("%v in %v: %v; with a greater fee %v", s.d, truth, was, is)
				}
			}
		}
	}
}

// isLater reports whether the one fill is by a later sale than the other one, or by none.
func isLater(f, g odd.Fill) bool {
	return g.Sale != odd.None && (f.Sale == odd.None || f.Sale > g.Sale)
}

// countEarlier returns how many orders of a desk are filled earlier on another
// one, each in a truth of it. None must be filled later.
func countEarlier(t *testing.T, d odd.Desk, truth odd.Truth, other odd.Desk, otherTruth odd.Truth) int {
	t.Helper()
	was, is := play(t, d, truth), play(t, other, otherTruth)
	many := 0
	for i := range was {
		if isLater(is[i], was[i]) {
			t.Fatalf("%v in %v: %v; %v in %v: %v", d, truth, was, other, otherTruth, is)
		}
		if isLater(was[i], is[i]) {
			many++
		}
	}
	return many
}

func TestP4_10Limit(t *testing.T) {
	r := rand.New(rand.NewSource(10))
	earlier := 0
	for _, s := range samples(600) {
		wider := changed(s.d, func(o *odd.Order) {
			if o.Limit > 0 && o.Buy {
				o.Limit = min(o.Limit+r.Intn(60), api.MaxTapePrice)
			}
			if o.Limit > 0 && !o.Buy {
				o.Limit = max(o.Limit-r.Intn(60), 1)
			}
		})
		before, after := ask(t, s.d), ask(t, wider)
		for i := range s.d.Orders {
			if before.verdicts[i] == odd.Always && after.verdicts[i] != odd.Always {
				t.Fatalf("%v, %d: %v; %v: %v", s.d, i, before, wider, after)
			}
		}
		for range 10 {
			truth := s.truth(r)
			earlier += countEarlier(t, s.d, truth, wider, truth)
		}
	}
	if earlier < 300 {
		t.Errorf("only %d orders are filled earlier", earlier)
	}
}

func TestP4_11Earlier(t *testing.T) {
	r := rand.New(rand.NewSource(11))
	earlier := 0
	for _, s := range samples(600) {
		d := changed(s.d, func(o *odd.Order) { o.Minute = to(0, api.MaxTapeMinute) })
		for range 10 {
			truth := s.truth(r)
			before := odd.Truth{Prices: truth.Prices, Minutes: truth.Minutes}
			for _, minute := range truth.Orders {
				before.Orders = append(before.Orders, between(r, 0, minute))
			}
			earlier += countEarlier(t, d, truth, d, before)
		}
	}
	if earlier < 300 {
		t.Errorf("only %d orders are filled earlier", earlier)
	}
}

func TestP4_12MoreTape(t *testing.T) {
	r := rand.New(rand.NewSource(12))
	always := 0
	for _, s := range samples(1500) {
		more := s.d
		more.Tape += pick(r, " ", " @20 ", " L0-2 ") + pick(r, "", s.d.Board.Stocks[0].Name+" ") + pick(r, "0.0", "5.0", "9.7", "2.5")
		after, e := odd.Verdicts(more)
		if e != api.OK {
			continue
		}
		before, _ := odd.Verdicts(s.d)
		for i := range before {
			if before[i] == odd.Always && after[i] != odd.Always {
				t.Fatalf("%v: %v; of %v %v", s.d, before, more, after)
			}
		}
		prices, e := tape.Show(more.Board, more.Tape, 0, r.Intn(2) == 0)
		minutes, f := tape.Minutes(more.Board, more.Tape)
		if e != api.OK || f != api.OK {
			t.Fatalf("Show, Minutes of %v: %v, %v", more, e, f)
		}
		longer := odd.Truth{Prices: prices}
		for _, m := range minutes {
			longer.Minutes = append(longer.Minutes, m.Hi)
		}
		for _, o := range s.d.Orders {
			longer.Orders = append(longer.Orders, between(r, o.Minute.Lo, o.Minute.Hi))
		}
		last := len(prices) - 1
		truth := odd.Truth{Prices: longer.Prices[:last], Minutes: longer.Minutes[:last], Orders: longer.Orders}
		was, is := play(t, s.d, truth), play(t, more, longer)
		for i := range was {
			if before[i] == odd.Always {
				always++
			}
			if was[i].Sale != odd.None && was[i] != is[i] || was[i].Sale == odd.None && is[i].Sale != odd.None && is[i].Sale != last {
				t.Fatalf("%v in %v: %v; with one more sale %v", s.d, truth, was, is)
			}
		}
	}
	if always < 100 {
		t.Errorf("only %d orders are always filled", always)
	}
}

func TestP4_13TwoOrders(t *testing.T) {
	r := rand.New(rand.NewSource(13))
	filled := 0
	for _, s := range samples(1000) {
		d := s.d
		o := pick(r, d.Orders...)
		o.Limit, o.Buy = 0, true
		other := o
		other.Buy = false
		d.Orders = pick(r, []odd.Order{o, other}, []odd.Order{other, o})
		s.d = d
		for range 10 {
			truth := s.truth(r)
			truth.Orders[1] = truth.Orders[0]
			fills := play(t, d, truth)
			if fills[0].Sale != fills[1].Sale {
				t.Fatalf("Play of %v, %v: %v", d, truth, fills)
			}
			if fills[0].Sale == odd.None || truth.Prices[fills[0].Sale] < d.Fee {
				continue
			}
			filled++
			shares, money, e := odd.Has(d, truth)
			if slices.ContainsFunc(shares, func(n int) bool { return n != 0 }) || money != 2*d.Fee*o.Number || e != api.OK {
				t.Fatalf("Has of %v, %v: %v, %d, %v", d, truth, shares, money, e)
			}
		}
	}
	if filled < 1000 {
		t.Errorf("only %d orders are filled", filled)
	}
}

// alone returns the desk with this order only.
func alone(d odd.Desk, order int) odd.Desk {
	d.Orders = []odd.Order{d.Orders[order]}
	return d
}

func TestP4_14ByItself(t *testing.T) {
	for _, s := range samples(600) {
		all := ask(t, s.d)
		for i := range s.d.Orders {
			one := ask(t, alone(s.d, i))
			if !slices.Equal(one.sales[0], all.sales[i]) || one.bounds[0] != all.bounds[i] || one.verdicts[0] != all.verdicts[i] {
				t.Fatalf("%v, %d: %v; by itself %v", s.d, i, all, one)
			}
			for _, high := range []bool{false, true} {
				_, e := odd.Show(s.d, i, high)
				_, f := odd.Show(alone(s.d, i), 0, high)
				if e != f {
					t.Fatalf("Show of %v, %d: %v; by itself %v", s.d, i, e, f)
				}
			}
		}
	}
}

func TestP4_15Wider(t *testing.T) {
	r := rand.New(rand.NewSource(15))
	more := 0
	for _, s := range samples(1000) {
		wider := changed(s.d, func(o *odd.Order) {
			o.Minute.Lo = max(0, o.Minute.Lo-r.Intn(5))
			o.Minute.Hi += r.Intn(5)
		})
		before, after := ask(t, s.d), ask(t, wider)
		for i, b := range before.bounds {
			a := after.bounds[i]
			if len(before.sales[i]) > 0 && (a.Lo > b.Lo || a.Hi < b.Hi) {
				t.Fatalf("%v, %d: %v; %v: %v", s.d, i, before, wider, after)
			}
			for _, sale := range before.sales[i] {
				if !slices.Contains(after.sales[i], sale) {
					t.Fatalf("%v, %d: %v; %v: %v", s.d, i, before, wider, after)
				}
			}
			if before.verdicts[i] == odd.Open && after.verdicts[i] != odd.Open {
				t.Fatalf("%v, %d: %v; %v: %v", s.d, i, before, wider, after)
			}
			more += len(after.sales[i]) - len(before.sales[i])
		}
	}
	if more < 300 {
		t.Errorf("only %d more sales", more)
	}
}

func TestP4_16OneByOne(t *testing.T) {
	r := rand.New(rand.NewSource(16))
	for _, s := range samples(600) {
		for range 5 {
			truth := s.truth(r)
			shares, money, e := odd.Has(s.d, truth)
			if e != api.OK {
				t.Fatalf("Has of %v, %v: %v", s.d, truth, e)
			}
			for i, minute := range truth.Orders {
				one := odd.Truth{Prices: truth.Prices, Minutes: truth.Minutes, Orders: []int{minute}}
				l, m, e := odd.Has(alone(s.d, i), one)
				if len(l) != len(shares) || e != api.OK {
					t.Fatalf("Has of %v, %v: %v, %v", alone(s.d, i), one, l, e)
				}
				for stock, n := range l {
					shares[stock] -= n
				}
				money -= m
			}
			if slices.ContainsFunc(shares, func(n int) bool { return n != 0 }) || money != 0 {
				t.Fatalf("Has of %v, %v is more by %v, %d than by each order alone", s.d, truth, shares, money)
			}
		}
	}
}
