package post_test

import (
	"math/rand"
	"slices"
	"testing"

	"contango/api"
	"contango/post"
)

// play calls Play, which must have no error.
func play(t *testing.T, p post.Post, truth []int) []post.Sale {
	t.Helper()
	sales, e := post.Play(p, truth)
	if e != api.OK {
		t.Fatalf("Play of %v, %v: %v, %v", p, truth, sales, e)
	}
	return sales
}

// fills calls Fills, which must have no error.
func fills(t *testing.T, p post.Post) (fills, money []post.Range) {
	t.Helper()
	fills, money, e := post.Fills(p)
	if e != api.OK || len(fills) != len(p.Orders) || len(money) != len(p.Orders) {
		t.Fatalf("Fills of %v: %v, %v, %v", p, fills, money, e)
	}
	return fills, money
}

// surely calls Surely, which must have no error.
func surely(t *testing.T, p post.Post) []int {
	t.Helper()
	sure, e := post.Surely(p)
	if e != api.OK {
		t.Fatalf("Surely of %v: %v", p, e)
	}
	return sure
}

// leave calls Leave, which must have no error.
func leave(t *testing.T, p post.Post, records []post.Sale) []int {
	t.Helper()
	left, e := post.Leave(p, records)
	if e != api.OK {
		t.Fatalf("Leave of %v, %v: %v", p, records, e)
	}
	return left
}

// canExplain calls Explain, and reports whether there is a truth, which must be
// proved.
func canExplain(t *testing.T, p post.Post, records []post.Sale) bool {
	t.Helper()
	truth, e := post.Explain(p, records)
	if e != api.OK && e != api.ErrFalse || post.ProveTruth(p, truth, records) != (e == api.OK) {
		t.Fatalf("Explain of %v, %v: %v, %v", p, records, truth, e)
	}
	return e == api.OK
}

// TestP10_1Oracle compares Play with the definitions.
func TestP10_1Oracle(t *testing.T) {
	r := rand.New(rand.NewSource(1))
	many := map[int]int{}
	for range 20000 {
		p := somePost(r, api.MaxPostOrders)
		truth := someTruth(r, p)
		want := follow(p, truth).sales
		if got := play(t, p, truth); !slices.Equal(got, want) {
			t.Fatalf("Play of %v, %v: %v; want %v", p, truth, got, want)
		}
		many[len(want)]++
	}
	if many[0] < 1000 || many[1] < 1000 || many[2] < 1000 || many[3] < 1000 || many[4] < 100 {
		t.Errorf("truths by their number of sales: %v", many)
	}
}

// TestP10_2Oracle compares Fills and Surely with all truths.
func TestP10_2Oracle(t *testing.T) {
	wide, sure, not := 0, 0, 0
	for _, s := range samples(2, 6000) {
		gotFills, gotMoney := fills(t, s.p)
		var want []int
		for order, o := range s.p.Orders {
			n, m := s.bounds(order)
			if gotFills[order] != n || gotMoney[order] != m {
				t.Fatalf("Fills of %v: %v, %v; of the order %d %v and %v", s.p, gotFills, gotMoney, order, n, m)
			}
			if n.Lo == o.Number {
				want = append(want, order)
			}
			if n.Lo < n.Hi && n.Hi == o.Number {
				not++
			}
			if n.Lo == n.Hi && m.Lo < m.Hi {
				wide++
			}
		}
		sure += len(want)
		if got := surely(t, s.p); !slices.Equal(got, want) {
			t.Fatalf("Surely of %v: %v; want %v", s.p, got, want)
		}
	}
	if wide < 100 || sure < 300 || not < 200 {
		t.Errorf("orders that are filled for more or less: %d; surely: %d; perhaps: %d", wide, sure, not)
	}
}

// TestP10_3Oracle compares Open with all prices.
func TestP10_3Oracle(t *testing.T) {
	r := rand.New(rand.NewSource(3))
	is := map[api.Errno]int{}
	for range 20000 {
		p := somePost(r, api.MaxPostOrders)
		if r.Intn(2) == 0 {
			for i := range p.Orders {
				p.Orders[i].Limit = between(r, 1, api.MaxPostPrice)
			}
		}
		wantPrice, wantShares := opening(p)
		want := api.OK
		if wantShares == 0 {
			want = api.ErrNone
		}
		if price, shares, e := post.Open(p); price != wantPrice || shares != wantShares || e != want {
			t.Fatalf("Open of %v: %d, %d, %v; want %d, %d, %v", p, price, shares, e, wantPrice, wantShares, want)
		}
		is[want]++
	}
	if is[api.OK] < 2000 || is[api.ErrNone] < 2000 {
		t.Errorf("errors: %v", is)
	}
}

// TestP10_4Oracle compares Explain and ProveTruth with all truths.
func TestP10_4Oracle(t *testing.T) {
	r := rand.New(rand.NewSource(4))
	is, proved := map[bool]int{}, map[bool]int{}
	for _, s := range samples(4, 2000) {
		for range 4 {
			records := someRecords(r, s)
			want := s.explains(records)
			if got := canExplain(t, s.p, records); got != want {
				t.Fatalf("Explain of %v, %v: %v; want %v", s.p, records, got, want)
			}
			is[want]++
			i := r.Intn(len(s.truths))
			want = areOf(records, s.sales[i])
			if got := post.ProveTruth(s.p, s.truths[i], records); got != want {
				t.Fatalf("ProveTruth of %v, %v, %v: %v", s.p, s.truths[i], records, got)
			}
			if len(records) > 0 {
				proved[want]++
			}
		}
	}
	if is[true] < 1000 || is[false] < 1000 || proved[true] < 500 || proved[false] < 500 {
		t.Errorf("explained: %v; by a truth: %v", is, proved)
	}
}

// TestP10_5Oracle compares Leave with all sets of records.
func TestP10_5Oracle(t *testing.T) {
	r := rand.New(rand.NewSource(5))
	many := map[int]int{}
	for _, s := range samples(5, 1500) {
		for range 3 {
			records := someRecords(r, s)
			want := s.smallest(records)
			if got := leave(t, s.p, records); !slices.Equal(got, want) {
				t.Fatalf("Leave of %v, %v: %v; want %v", s.p, records, got, want)
			}
			many[len(want)]++
		}
	}
	if many[0] < 300 || many[1] < 200 || many[2] < 50 || many[3] < 20 {
		t.Errorf("records by how many are left out: %v", many)
	}
}

// TestP10_6InEachTruth: in each truth what is filled of each order, and its money,
// are within their bounds, and what is recorded of it is explained.
func TestP10_6InEachTruth(t *testing.T) {
	r := rand.New(rand.NewSource(6))
	explained := 0
	for _, s := range samples(6, 1000) {
		filled, money := fills(t, s.p)
		sure := surely(t, s.p)
		for range 20 {
			truth := pick(r, s.truths...)
			sales := play(t, s.p, truth)
			for order, o := range s.p.Orders {
				n, m := filledOf(order, sales)
				isWithin := n >= filled[order].Lo && n <= filled[order].Hi && m >= money[order].Lo && m <= money[order].Hi
				if !isWithin || slices.Contains(sure, order) && n != o.Number {
					t.Fatalf("%v, %v: %d for %d of the order %d; bounds %v and %v, surely %v", s.p, truth, n, m, order, filled, money, sure)
				}
			}
			records, _ := without(sales, r.Intn(1<<len(sales)))
			r.Shuffle(len(records), func(i, j int) { records[i], records[j] = records[j], records[i] })
			if !post.ProveTruth(s.p, truth, records) || !canExplain(t, s.p, records) || len(leave(t, s.p, records)) > 0 {
				t.Fatalf("%v, %v: %v are not explained", s.p, truth, records)
			}
			explained += len(records)
		}
	}
	if explained < 2000 {
		t.Errorf("%d sales were explained", explained)
	}
}

// TestP10_7FairSales: each sale is at a price that both orders allow, of no order
// more than its Number is filled, and no two orders are left that could trade.
func TestP10_7FairSales(t *testing.T) {
	r := rand.New(rand.NewSource(7))
	rested := 0
	for range 10000 {
		p := somePost(r, api.MaxPostOrders)
		truth := someTruth(r, p)
		sales := play(t, p, truth)
		for _, s := range sales {
			buyer, seller := p.Orders[s.Buyer], p.Orders[s.Seller]
			if !buyer.Buy || seller.Buy || s.Number < 1 || s.Price > buyer.Limit || s.Price < seller.Limit {
				t.Fatalf("Play of %v, %v: %v", p, truth, s)
			}
		}
		best, cheapest := 0, api.MaxPostPrice+1
		for order, o := range p.Orders {
			n, _ := filledOf(order, sales)
			if n > o.Number {
				t.Fatalf("Play of %v, %v: %d of the order %d", p, truth, n, order)
			}
			if n < o.Number && o.Buy {
				best = max(best, o.Limit)
			}
			if n < o.Number && !o.Buy {
				cheapest = min(cheapest, o.Limit)
			}
		}
		if best >= cheapest {
			t.Fatalf("Play of %v, %v: %v; %d and %d could trade", p, truth, sales, best, cheapest)
		}
		if best > 0 && cheapest <= api.MaxPostPrice {
			rested++
		}
	}
	if rested < 1000 {
		t.Errorf("both sides rest in %d truths", rested)
	}
}

// TestP10_8BestFirst: of a side that comes before the other one an order is filled
// only if all better ones, and those of its limit that came before it, are whole.
func TestP10_8BestFirst(t *testing.T) {
	r := rand.New(rand.NewSource(8))
	pairs := map[bool]int{}
	for range 5000 {
		p := somePost(r, api.MaxPostOrders)
		first := r.Intn(2) == 0
		for i := range p.Orders {
			low := pick(r, 0, 1, 2)
			if p.Orders[i].Buy != first {
				low += 3
			}
			p.Orders[i].Minute = to(low, low)
		}
		truth := someTruth(r, p)
		sales := play(t, p, truth)
		for x, o := range p.Orders {
			for y, other := range p.Orders {
				if x == y || o.Buy != first || other.Buy != first {
					continue
				}
				isBetter := o.Limit > other.Limit == first && o.Limit != other.Limit
				isBefore := truth[x] < truth[y] || truth[x] == truth[y] && x < y
				if !isBetter && (o.Limit != other.Limit || !isBefore) {
					continue
				}
				whole, _ := filledOf(x, sales)
				n, _ := filledOf(y, sales)
				if n > 0 && whole < o.Number {
					t.Fatalf("Play of %v, %v: %v; the order %d is filled before %d", p, truth, sales, y, x)
				}
				if n > 0 {
					pairs[isBetter]++
				}
			}
		}
	}
	if pairs[true] < 1000 || pairs[false] < 300 {
		t.Errorf("filled after a better one, and after one of the same limit: %v", pairs)
	}
}

// turned returns the post with all orders turned.
func turned(p post.Post) post.Post {
	p = clone(p)
	for i := range p.Orders {
		p.Orders[i].Buy = !p.Orders[i].Buy
		p.Orders[i].Limit = api.MaxPostPrice + 1 - p.Orders[i].Limit
	}
	return p
}

// TestP10_9BothSides: if all orders are turned, what is filled is the same.
func TestP10_9BothSides(t *testing.T) {
	r := rand.New(rand.NewSource(9))
	filled := 0
	for range 5000 {
		p := somePost(r, api.MaxPostOrders)
		truth := someTruth(r, p)
		sales, others := play(t, p, truth), play(t, turned(p), truth)
		for order := range p.Orders {
			n, _ := filledOf(order, sales)
			m, _ := filledOf(order, others)
			if n != m {
				t.Fatalf("%v, %v: %d of the order %d is filled; turned %d", p, truth, n, order, m)
			}
			filled += n
		}
	}
	for _, s := range samples(9, 500) {
		one, _ := fills(t, s.p)
		other, _ := fills(t, turned(s.p))
		if !slices.Equal(one, other) || !slices.Equal(surely(t, s.p), surely(t, turned(s.p))) {
			t.Fatalf("Fills of %v: %v; turned %v", s.p, one, other)
		}
	}
	if filled < 5000 {
		t.Errorf("%d shares were sold", filled)
	}
}

// widened returns the post with a wider Minute of one order.
func widened(r *rand.Rand, p post.Post) post.Post {
	p = clone(p)
	x := &p.Orders[r.Intn(len(p.Orders))].Minute
	x.Lo, x.Hi = max(0, x.Lo-r.Intn(7)), min(api.MaxPostMinute, x.Hi+r.Intn(7))
	return p
}

// TestP10_10Wider: with a wider Minute no bounds are narrower, no more orders are
// surely filled, and no more records have to be left out.
func TestP10_10Wider(t *testing.T) {
	r := rand.New(rand.NewSource(10))
	changed, fewer := 0, 0
	for _, s := range samples(10, 6000) {
		p := widened(r, s.p)
		before, paid := fills(t, s.p)
		after, more := fills(t, p)
		for order := range p.Orders {
			x, y, m, n := before[order], after[order], paid[order], more[order]
			if y.Lo > x.Lo || y.Hi < x.Hi || n.Lo > m.Lo || n.Hi < m.Hi {
				t.Fatalf("%v to %v: %v, %v become %v, %v", s.p, p, before, paid, after, more)
			}
			if m != n {
				changed++
			}
		}
		was := surely(t, s.p)
		for _, order := range surely(t, p) {
			if !slices.Contains(was, order) {
				t.Fatalf("%v to %v: the order %d is surely filled only then", s.p, p, order)
			}
		}
		var sales [][]post.Sale
		for range 3 {
			sales = append(sales, play(t, p, someTruth(r, p)))
		}
		records := someRecords(r, sample{sales: sales})
		x, y := len(leave(t, s.p, records)), len(leave(t, p, records))
		if y > x || canExplain(t, s.p, records) && !canExplain(t, p, records) {
			t.Fatalf("%v to %v: of %v %d are left out, then %d", s.p, p, records, x, y)
		}
		if y < x {
			fewer++
		}
	}
	if changed < 100 || fewer < 10 {
		t.Errorf("bounds that became wider: %d; sets that became smaller: %d", changed, fewer)
	}
}

// TestP10_11TheLastOne: an order more, that comes after all others, does not change
// the sales before it.
func TestP10_11TheLastOne(t *testing.T) {
	r := rand.New(rand.NewSource(11))
	more := 0
	for range 10000 {
		p := somePost(r, api.MaxPostOrders-1)
		truth := someTruth(r, p)
		last := min(api.MaxPostMinute, slices.Max(truth)+r.Intn(3))
		p = clone(p)
		before := play(t, p, truth)
		o := someOrder(r, pick(r, p.Orders...).Limit, 0)
		o.Limit, o.Minute = min(o.Limit, api.MaxPostPrice), to(last, last)
		p.Orders = append(p.Orders, o)
		after := play(t, p, append(truth, last))
		if len(after) < len(before) || !slices.Equal(after[:len(before)], before) {
			t.Fatalf("Play of %v, %v: %v; without the last one %v", p, truth, after, before)
		}
		for _, s := range after[len(before):] {
			if s.Buyer != len(truth) && s.Seller != len(truth) {
				t.Fatalf("Play of %v, %v: %v after %v", p, truth, s, before)
			}
			more++
		}
	}
	if more < 2000 {
		t.Errorf("the last ones had %d sales", more)
	}
}

// TestP10_12Opening: at no price is the number of shares greater.
func TestP10_12Opening(t *testing.T) {
	r := rand.New(rand.NewSource(12))
	found := 0
	for range 3000 {
		p := somePost(r, api.MaxPostOrders)
		price, shares, e := post.Open(p)
		most := 0
		for n := range api.MaxPostPrice {
			x, _ := sharesAt(p, n+1)
			most = max(most, x)
		}
		if shares != most || (e == api.OK) != (most > 0) {
			t.Fatalf("Open of %v: %d, %v; there are %d", p, shares, e, most)
		}
		if x, _ := sharesAt(p, price); e == api.OK && x != shares {
			t.Fatalf("Open of %v: %d, %d; at this price there are %d", p, price, shares, x)
		}
		found += shares
	}
	if found < 3000 {
		t.Errorf("%d shares change hands", found)
	}
}

// TestP10_13Certain: if each Minute has one number, both ends of all bounds are the
// same, and are what Play says.
func TestP10_13Certain(t *testing.T) {
	r := rand.New(rand.NewSource(13))
	filled := 0
	for range 3000 {
		p := somePost(r, api.MaxPostOrders)
		truth := someTruth(r, p)
		for i, minute := range truth {
			p.Orders[i].Minute = to(minute, minute)
		}
		sales := play(t, p, truth)
		got, money := fills(t, p)
		var sure []int
		for order, o := range p.Orders {
			n, m := filledOf(order, sales)
			if got[order] != to(n, n) || money[order] != to(m, m) {
				t.Fatalf("Fills of %v: %v, %v; Play %v", p, got, money, sales)
			}
			if n == o.Number {
				sure = append(sure, order)
			}
			filled += n
		}
		if list := surely(t, p); !slices.Equal(list, sure) {
			t.Fatalf("Surely of %v: %v; Play %v", p, list, sales)
		}
		if x, e := post.Explain(p, sales); !slices.Equal(x, truth) || e != api.OK {
			t.Fatalf("Explain of %v, %v: %v, %v", p, sales, x, e)
		}
	}
	if filled < 3000 {
		t.Errorf("%d shares are filled", filled)
	}
}

// TestP10_14LeftOut: without the smallest set some truth explains the records;
// without any shorter list none does.
func TestP10_14LeftOut(t *testing.T) {
	r := rand.New(rand.NewSource(14))
	many := map[int]int{}
	for _, s := range samples(14, 1500) {
		records := someRecords(r, s)
		set := leave(t, s.p, records)
		for n := range 1 << len(records) {
			kept, left := without(records, n)
			if len(left) > len(set) {
				continue
			}
			isBefore := len(left) < len(set) || slices.Compare(left, set) < 0
			isSame := slices.Equal(left, set)
			if canExplain(t, s.p, kept) && isBefore || isSame && !canExplain(t, s.p, kept) {
				t.Fatalf("Leave of %v, %v: %v; without %v: %v", s.p, records, set, left, isSame)
			}
		}
		many[len(set)]++
		r.Shuffle(len(records), func(i, j int) { records[i], records[j] = records[j], records[i] })
		if again := leave(t, s.p, records); len(again) != len(set) {
			t.Fatalf("Leave of %v, %v in another order: %v; before %v", s.p, records, again, set)
		}
	}
	if many[0] < 50 || many[1] < 50 || many[2] < 20 {
		t.Errorf("records by how many are left out: %v", many)
	}
}
