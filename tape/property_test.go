package tape_test

import (
	"math/rand"
	"slices"
	"strconv"
	"strings"
	"testing"

	"contango/api"
	"contango/tape"
)

// TestP2_1Oracle compares Read with what the tapes were made of.
func TestP2_1Oracle(t *testing.T) {
	for _, s := range append(samples(2000, true), samples(2000, false)...) {
		if l, e := tape.Read(s.b, s.tape); !slices.Equal(l, s.prints) || e != api.OK {
			t.Fatalf("Read of %v, %q: %v, %v; want %v", s.b, s.tape, l, e, s.prints)
		}
	}
}

// TestP2_2Oracle compares Prices and Show with all truths.
func TestP2_2Oracle(t *testing.T) {
	tried := 0
	for _, s := range append(samples(500, true), samples(500, false)...) {
		all, ok := truths(s.b, s.prints, 1000)
		if !ok {
			continue
		}
		tried++
		bounds, e := tape.Prices(s.b, s.tape)
		if len(all) == 0 {
			if bounds != nil || e != api.ErrFalse {
				t.Fatalf("Prices of %v, %q: %v, %v", s.b, s.tape, bounds, e)
			}
			continue
		}
		if len(bounds) != len(s.prints) || e != api.OK {
			t.Fatalf("Prices of %v, %q: %v, %v", s.b, s.tape, bounds, e)
		}
		for sale, got := range bounds {
			checkEnds(t, s, all, sale, got)
		}
	}
	if tried < 700 {
		t.Errorf("only %d samples are small enough", tried)
	}
}

// checkEnds compares the bounds of a price, and the truths that show them, with all truths.
func checkEnds(t *testing.T, s sample, all [][]int, sale int, got tape.Range) {
	low, high := all[0], all[0]
	for _, truth := range all {
		if truth[sale] < low[sale] {
			low = truth
		}
		if truth[sale] > high[sale] {
			high = truth
		}
	}
	if got != to(low[sale], high[sale]) {
		t.Fatalf("Prices of %v, %q, %d: %v; want %d..%d", s.b, s.tape, sale, got, low[sale], high[sale])
	}
	if l, e := tape.Show(s.b, s.tape, sale, false); !slices.Equal(l, low) || e != api.OK {
		t.Fatalf("Show of %v, %q, %d, low: %v, %v; want %v", s.b, s.tape, sale, l, e, low)
	}
	if l, e := tape.Show(s.b, s.tape, sale, true); !slices.Equal(l, high) || e != api.OK {
		t.Fatalf("Show of %v, %q, %d, high: %v, %v; want %v", s.b, s.tape, sale, l, e, high)
	}
}

// TestP2_3Oracle tries each minute of each sale.
func TestP2_3Oracle(t *testing.T) {
	for _, s := range append(samples(1000, true), samples(1000, false)...) {
		due, ok := allRight(s.prints)
		want := api.OK
		if !ok {
			want = api.ErrFalse
		}
		if l, e := tape.Minutes(s.b, s.tape); !slices.Equal(l, due) || e != want {
			t.Fatalf("Minutes of %v, %q: %v, %v; want %v, %v", s.b, s.tape, l, e, due, want)
		}
	}
}

// canBeOf reports whether the sale can be that of the slip.
func canBeOf(s sample, all [][]int, sale int, sl tape.Slip) bool {
	p := s.prints[sale]
	if p.Stock != sl.Stock || sl.Number < p.Number.Lo || sl.Number > p.Number.Hi {
		return false
	}
	if !slices.ContainsFunc(all, func(truth []int) bool { return truth[sale] == sl.Price }) {
		return false
	}
	for minute := sl.Minutes.Lo; minute <= sl.Minutes.Hi; minute++ {
		if isRight(s.prints, sale, minute) {
			return true
		}
	}
	return false
}

// someSlip returns a slip that is often one of a sale.
func someSlip(r *rand.Rand, s sample) tape.Slip {
	sl := slip(r.Intn(len(s.b.Stocks)), between(r, 1, api.MaxTapePrice), between(r, 1, 9), to(0, 0))
	if len(s.prints) > 0 {
		sale := r.Intn(len(s.prints))
		sl.Stock, sl.Price, sl.Number = s.prints[sale].Stock, s.prices[sale], s.numbers[sale]
	}
	sl.Price = min(max(1, sl.Price+pick(r, 0, 0, 0, 1, 80, -80)), api.MaxTapePrice)
	sl.Number = min(sl.Number+pick(r, 0, 0, 0, 1), api.MaxTapeNumber)
	low := r.Intn(15)
	sl.Minutes = to(low, low+pick(r, 0, 1, 5, 20))
	return sl
}

// TestP2_4Oracle compares Find with all truths and all right minutes.
func TestP2_4Oracle(t *testing.T) {
	r := rand.New(rand.NewSource(4))
	found := 0
	for _, s := range append(samples(1000, true), samples(300, false)...) {
		all, ok := truths(s.b, s.prints, 500)
		if !ok {
			continue
		}
		for range 5 {
			sl := someSlip(r, s)
			var due []int
			want := api.OK
			if _, right := allRight(s.prints); len(all) == 0 || !right {
				want = api.ErrFalse
			}
			for sale := range s.prints {
				if want == api.OK && canBeOf(s, all, sale, sl) {
					due = append(due, sale)
				}
			}
			found += len(due)
			if l, e := tape.Find(s.b, s.tape, sl); !slices.Equal(l, due) || e != want {
				t.Fatalf("Find in %v, %q of %v: %v, %v; want %v, %v", s.b, s.tape, sl, l, e, due, want)
			}
		}
	}
	if found < 500 {
		t.Errorf("only %d sales are found", found)
	}
}

// TestP2_7Oracle compares ProveTruth with the definition, of prices that are
// often nearly a truth.
func TestP2_7Oracle(t *testing.T) {
	r := rand.New(rand.NewSource(7))
	is := map[bool]int{}
	for _, s := range append(samples(1000, true), samples(1000, false)...) {
		for range 5 {
			prices := slices.Clone(s.prices)
			if len(prices) > 0 && rarely(r, 2) {
				prices[r.Intn(len(prices))] += pick(r, 1, -1, 80, -80, 800, -800)
			}
			due := isTruth(s.b, s.prints, prices)
			is[due]++
			if got := tape.ProveTruth(s.b, s.tape, prices); got != due {
				t.Fatalf("ProveTruth of %v, %q, %v: %v", s.b, s.tape, prices, got)
			}
		}
	}
	if is[true] < 1000 || is[false] < 1000 {
		t.Errorf("truths, and others: %v", is)
	}
}

func TestP2_8WhatHappened(t *testing.T) {
	for _, s := range samples(2000, true) {
		written, e := tape.Write(s.b, s.sales())
		if e != api.OK {
			t.Fatalf("Write of %v, %v: %v", s.b, s.sales(), e)
		}
		for _, said := range []string{s.tape, written} {
			bounds, e := tape.Prices(s.b, said)
			if !tape.ProveTruth(s.b, said, s.prices) || len(bounds) != len(s.prices) || e != api.OK {
				t.Fatalf("%v, %q: %v, %v; %v is a truth", s.b, said, bounds, e, s.prices)
			}
			for i, price := range s.prices {
				if price < bounds[i].Lo || price > bounds[i].Hi {
					t.Fatalf("%v, %q, %d: %d is not in %v", s.b, said, i, price, bounds[i])
				}
			}
			if l, e := tape.Misprints(s.b, said); len(l) > 0 || e != api.OK {
				t.Fatalf("Misprints of %v, %q: %v, %v", s.b, said, l, e)
			}
		}
	}
}

// printedAt returns the tape with the sale printed at a full price, and whether
// it is short enough.
func printedAt(s sample, sale, price int) (string, bool) {
	tokens := strings.Split(s.tape, " ")
	for i, token := range tokens {
		if !strings.Contains(token, ".") {
			continue
		}
		if sale == 0 {
			tokens[i] = priceToken(price, true)
		}
		sale--
	}
	said := strings.Join(tokens, " ")
	return said, len(said) <= api.MaxTapeBytes
}

func TestP2_9TheEnds(t *testing.T) {
	for _, s := range samples(500, true) {
		bounds, _ := tape.Prices(s.b, s.tape)
		for i, b := range bounds {
			for price := s.prints[i].Figures; price <= api.MaxTapePrice && !s.prints[i].Full; price += 80 {
				said, ok := printedAt(s, i, price)
				if !ok || price == 0 {
					continue
				}
				_, e := tape.Prices(s.b, said)
				if (price == b.Lo || price == b.Hi) && e != api.OK {
					t.Fatalf("%v, %q: %v, but not %d: %v", s.b, s.tape, b, price, e)
				}
				if (price < b.Lo || price > b.Hi) && e != api.ErrFalse {
					t.Fatalf("%v, %q: %v, but also %d: %v", s.b, s.tape, b, price, e)
				}
			}
		}
	}
}

// isIn reports whether all of the ranges are in the others.
func isIn(inner, outer []tape.Range) bool {
	for i, r := range inner {
		if r.Lo < outer[i].Lo || r.Hi > outer[i].Hi {
			return false
		}
	}
	return len(inner) == len(outer)
}

// wider returns the board with a greater Jump, or wider ranges Start.
func wider(r *rand.Rand, b tape.Board) tape.Board {
	b.Stocks = slices.Clone(b.Stocks)
	if rarely(r, 2) {
		b.Jump = between(r, b.Jump, api.MaxTapeJump)
		return b
	}
	for i := range b.Stocks {
		s := &b.Stocks[i].Start
		s.Lo = max(1, s.Lo-r.Intn(100))
		s.Hi = min(s.Hi+r.Intn(100), api.MaxTapePrice)
	}
	return b
}

func TestP2_10MoreJump(t *testing.T) {
	r := rand.New(rand.NewSource(10))
	for _, s := range append(samples(500, true), samples(1000, false)...) {
		more := wider(r, s.b)
		inner, e := tape.Prices(s.b, s.tape)
		outer, f := tape.Prices(more, s.tape)
		if e == api.OK && (f != api.OK || !isIn(inner, outer)) {
			t.Fatalf("%q: %v of %v, %v, %v of %v", s.tape, inner, s.b, outer, f, more)
		}
		few, _ := tape.Misprints(more, s.tape)
		if many, _ := tape.Misprints(s.b, s.tape); len(few) > len(many) {
			t.Fatalf("%q: misprints %v of %v, %v of %v", s.tape, many, s.b, few, more)
		}
	}
}

func TestP2_11Full(t *testing.T) {
	narrower := 0
	for _, s := range append(samples(500, true), samples(300, false)...) {
		outer, f := tape.Prices(s.b, s.tape)
		for i, p := range s.prints {
			for price := p.Figures; price <= api.MaxTapePrice && !p.Full; price += 80 {
				said, ok := printedAt(s, i, price)
				inner, e := tape.Prices(s.b, said)
				if !ok || e != api.OK {
					continue
				}
				if f != api.OK || !isIn(inner, outer) || inner[i] != one(price) {
					t.Fatalf("%v: %v of %q, %v, %v of %q", s.b, inner, said, outer, f, s.tape)
				}
				if !slices.Equal(inner, outer) {
					narrower++
				}
			}
		}
	}
	if narrower < 200 {
		t.Errorf("only %d full prices narrow bounds", narrower)
	}
}

// says reports whether the tape says the sales.
func says(b tape.Board, said string, sales []tape.Sale) bool {
	l, e := tape.Read(b, said)
	if e != api.OK || len(l) != len(sales) {
		return false
	}
	for i, s := range sales {
		p := l[i]
		if p.Stock != s.Stock || p.Number != one(s.Number) || !prints(p, s.Price) || p.Minute != s.Minute {
			return false
		}
	}
	return true
}

// TestP2_6Oracle, of P2.6 and P2.12, tries all tapes that say the sales.
func TestP2_6Oracle(t *testing.T) {
	for _, s := range samples(300, true) {
		sales := s.sales()
		due := shortestTape(s.b, sales)
		got, e := tape.Write(s.b, sales)
		if got != due || e != api.OK {
			t.Fatalf("Write of %v, %v: %q, %v; want %q", s.b, sales, got, e, due)
		}
		if !says(s.b, due, sales) {
			t.Fatalf("%q does not say %v", due, sales)
		}
	}
}

func TestP2_12Shortest(t *testing.T) {
	r := rand.New(rand.NewSource(12))
	for _, s := range append(samples(1000, true), samples(1000, false)...) {
		sales := s.sales()
		for i := range sales {
			sales[i].Price = pick(r, sales[i].Price, between(r, 1, api.MaxTapePrice))
		}
		got, e := tape.Write(s.b, sales)
		if e != api.OK || !says(s.b, got, sales) {
			t.Fatalf("Write of %v, %v: %q, %v", s.b, sales, got, e)
		}
		if says(s.b, s.tape, sales) && isBefore(s.tape, got) {
			t.Fatalf("Write of %v, %v: %q; %q is shorter", s.b, sales, got, s.tape)
		}
		tokens := strings.Split(got, " ")
		for i := range tokens {
			if fewer := strings.Join(slices.Delete(slices.Clone(tokens), i, i+1), " "); len(sales) > 0 && says(s.b, fewer, sales) {
				t.Fatalf("Write of %v, %v: %q; %q is shorter", s.b, sales, got, fewer)
			}
		}
	}
}

// later returns the tape with some ranges of lateness moved by some minutes more.
func later(r *rand.Rand, said string) string {
	tokens := strings.Split(said, " ")
	for i, token := range tokens {
		first, second, isRange := strings.Cut(strings.TrimPrefix(token, "L"), "-")
		if !isRange || rarely(r, 3) {
			continue
		}
		low, _ := strconv.Atoi(first)
		high, _ := strconv.Atoi(second)
		more := r.Intn(5)
		low, high = min(low+more, api.MaxTapeLate), min(high+more+r.Intn(3), api.MaxTapeLate)
		tokens[i] = "L" + strconv.Itoa(low) + "-" + strconv.Itoa(high)
	}
	return strings.Join(tokens, " ")
}

func TestP2_13Later(t *testing.T) {
	r := rand.New(rand.NewSource(13))
	moved := 0
	for _, s := range append(samples(1500, true), samples(1500, false)...) {
		said := later(r, s.tape)
		early, e := tape.Minutes(s.b, s.tape)
		late, f := tape.Minutes(s.b, said)
		if e != api.OK || f != api.OK || len(said) > api.MaxTapeBytes {
			continue
		}
		for i := range late {
			if late[i].Lo > early[i].Lo || late[i].Hi > early[i].Hi {
				t.Fatalf("%v: %v of %q, %v of %q", s.b, early, s.tape, late, said)
			}
			if i > 0 && (late[i].Lo < late[i-1].Lo || late[i].Hi < late[i-1].Hi) {
				t.Fatalf("%v: %v of %q", s.b, late, said)
			}
		}
		if !slices.Equal(early, late) {
			moved++
		}
	}
	if moved < 200 {
		t.Errorf("only %d tapes are later", moved)
	}
}

// TestP2_14Misprints, of P2.5, too, tries each list of sales that is smaller
// than the smallest set.
func TestP2_14Misprints(t *testing.T) {
	lengths := map[int]int{}
	for _, s := range append(samples(100, true), samples(600, false)...) {
		got, e := tape.Misprints(s.b, s.tape)
		if e != api.OK || !slices.IsSorted(got) || !hasTruth(s.b, s.prints, got) {
			t.Fatalf("Misprints of %v, %q: %v, %v", s.b, s.tape, got, e)
		}
		for set := range 1 << len(s.prints) {
			if l := chosen(set); isSmaller(l, got) && hasTruth(s.b, s.prints, l) {
				t.Fatalf("Misprints of %v, %q: %v, but also %v", s.b, s.tape, got, l)
			}
		}
		lengths[len(got)]++
	}
	if lengths[1] < 50 || lengths[2] < 50 || lengths[3] < 10 {
		t.Errorf("lengths of the smallest sets: %v", lengths)
	}
}

func TestP2_15Slips(t *testing.T) {
	for _, s := range samples(1000, true) {
		for i, p := range s.prints {
			sl := slip(p.Stock, s.prices[i], s.numbers[i], one(s.minutes[i]))
			if l, e := tape.Find(s.b, s.tape, sl); !slices.Contains(l, i) || e != api.OK {
				t.Fatalf("Find in %v, %q of %v: %v, %v without %d", s.b, s.tape, sl, l, e, i)
			}
		}
	}
}
