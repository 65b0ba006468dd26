package odd_test

import (
	"math/rand"
	"slices"
	"strconv"
	"strings"

	"contango/api"
	"contango/odd"
	"contango/tape"
)

// The oracle follows the chapters' definitions, and tries everything: all
// truths of the tape, all right minutes, all minutes of an order. Samples are
// desks with tapes that tell what truly happened, or nearly so.

// pick returns one of the elements.
func pick[T any](r *rand.Rand, list ...T) T { return list[r.Intn(len(list))] }

// between returns a number of the range.
func between(r *rand.Rand, low, high int) int { return low + r.Intn(high-low+1) }

// someBoard returns a valid board, with prices at both ends, too.
func someBoard(r *rand.Rand) tape.Board {
	b := tape.Board{Jump: pick(r, 0, 5, 20, 39, 40, 40, 40), Small: between(r, 1, api.MaxTapeSmall)}
	for i := range between(r, 1, 3) {
		low := pick(r, 1, 2, 30, 200, 300, 700, 799, between(r, 1, api.MaxTapePrice))
		high := min(low+pick(r, 0, 0, 1, 10, 80, 160), api.MaxTapePrice)
		b.Stocks = append(b.Stocks, tape.Stock{Name: strings.Repeat("A", i+1), Start: tape.Range{Lo: low, Hi: high}})
	}
	return b
}

// teller tells sales on a tape, one after the other.
type teller struct {
	r      *rand.Rand
	b      tape.Board
	from   []tape.Range // from which the next sale of each stock jumps
	tokens []string
	stock  int
	minute int // of the last sale
	print  int // the minute at which it was printed
	late   tape.Range
}

// happen tells one more sale.
func (t *teller) happen() {
	t.minute += pick(t.r, 0, 0, 1, 2)
	printed := max(t.print, t.minute+pick(t.r, 0, 0, 1, 2))
	if printed != t.print {
		t.say("@" + strconv.Itoa(printed))
	}
	t.print = printed
	if delay := printed - t.minute; delay < t.late.Lo || delay > t.late.Hi || t.r.Intn(4) == 0 {
		t.late = tape.Range{Lo: max(0, delay-t.r.Intn(3)), Hi: delay + t.r.Intn(3)}
		t.say("L" + strconv.Itoa(t.late.Lo) + "-" + strconv.Itoa(t.late.Hi))
	}
	stock := t.r.Intn(len(t.b.Stocks))
	if stock != t.stock {
		t.say(t.b.Stocks[stock].Name)
	}
	t.stock = stock
	low, high := max(1, t.from[stock].Lo-t.b.Jump), min(api.MaxTapePrice, t.from[stock].Hi+t.b.Jump)
	price := pick(t.r, low, high, between(t.r, low, high))
	t.from[stock] = tape.Range{Lo: price, Hi: price}
	if t.r.Intn(6) == 0 {
		t.say("$" + strconv.Itoa(price/8) + "." + strconv.Itoa(price%8))
	} else {
		t.say(strconv.Itoa(price%80/8) + "." + strconv.Itoa(price%8))
	}
}

// say adds a token.
func (t *teller) say(token string) { t.tokens = append(t.tokens, token) }

// someTape returns a tape of so many sales at most.
func someTape(r *rand.Rand, b tape.Board, most int) string {
	t := teller{r: r, b: b, stock: -1, minute: between(r, 0, 2)}
	for _, s := range b.Stocks {
		t.from = append(t.from, s.Start)
	}
	for range between(r, 1, most) {
		t.happen()
	}
	return strings.Join(t.tokens, " ")
}

// someOrder returns an order that is often about the sales of the tape.
func someOrder(r *rand.Rand, b tape.Board, truths space) odd.Order {
	low := between(r, 0, 10)
	o := odd.Order{Buy: r.Intn(2) == 0, Stock: r.Intn(len(b.Stocks)), Number: between(r, 1, api.MaxOddNumber), Minute: to(low, low+pick(r, 0, 0, 1, 4))}
	if len(truths.prints) > 0 {
		sale := r.Intn(len(truths.prints))
		o.Stock = truths.prints[sale].Stock
		low = max(0, pick(r, truths.minutes...)[sale]-r.Intn(4))
		o.Minute = to(low, low+pick(r, 0, 0, 1, 4))
		if r.Intn(3) > 0 {
			o.Limit = max(1, min(pick(r, truths.prices...)[sale]+between(r, -6, 6), api.MaxTapePrice))
		}
	}
	return o
}

// space has all truths of a tape, and all right minutes.
type space struct {
	prints          []tape.Print
	prices, minutes [][]int
}

// sample is a valid desk whose tape has truths, all of which it has, and right minutes.
type sample struct {
	d odd.Desk
	space
}

// someSample returns a sample whose space is small enough to be gone through.
func someSample(r *rand.Rand) sample {
	for {
		b := someBoard(r)
		said := someTape(r, b, pick(r, 3, 5, 5, api.MaxTapeSales))
		prints, e := tape.Read(b, said)
		s := sample{odd.Desk{Board: b, Tape: said, Fee: between(r, 0, api.MaxOddFee)}, space{prints: prints}}
		s.prices, s.minutes = allPrices(b, prints), allMinutes(prints)
		if e != api.OK || len(s.prices)*len(s.minutes) > 2000 {
			continue
		}
		for range between(r, 1, api.MaxOddOrders) {
			s.d.Orders = append(s.d.Orders, someOrder(r, b, s.space))
		}
		return s
	}
}

// samples returns so many samples, always the same ones.
func samples(many int) []sample {
	r := rand.New(rand.NewSource(1901))
	var list []sample
	for range many {
		list = append(list, someSample(r))
	}
	return list
}

// differ returns by how much the price differs from the nearest one of the range.
func differ(from tape.Range, price int) int { return max(from.Lo-price, price-from.Hi, 0) }

// allPrices returns all truths of the tape.
func allPrices(b tape.Board, prints []tape.Print) [][]int {
	var out [][]int
	list := make([]int, len(prints))
	var try func(sale int, from []tape.Range)
	try = func(sale int, from []tape.Range) {
		if sale == len(prints) {
			out = append(out, slices.Clone(list))
			return
		}
		p := prints[sale]
		for price := 1; price <= api.MaxTapePrice; price++ {
			isPrinted := price%80 == p.Figures && !p.Full || price == p.Figures && p.Full
			if isPrinted && differ(from[p.Stock], price) <= b.Jump {
				list[sale] = price
				next := slices.Clone(from)
				next[p.Stock] = tape.Range{Lo: price, Hi: price}
				try(sale+1, next)
			}
		}
	}
	var start []tape.Range
	for _, s := range b.Stocks {
		start = append(start, s.Start)
	}
	try(0, start)
	return out
}

// allMinutes returns all right minutes.
func allMinutes(prints []tape.Print) [][]int {
	out := [][]int{nil}
	for _, p := range prints {
		var longer [][]int
		for _, list := range out {
			for minute := p.Minute - p.Late.Hi; minute <= p.Minute-p.Late.Lo; minute++ {
				if len(list) == 0 || minute >= list[len(list)-1] {
					longer = append(longer, append(slices.Clone(list), minute))
				}
			}
		}
		out = longer
	}
	return out
}

// truth returns one of all truths of the sample.
func (s sample) truth(r *rand.Rand) odd.Truth {
	t := odd.Truth{Prices: slices.Clone(pick(r, s.prices...)), Minutes: slices.Clone(pick(r, s.minutes...))}
	for _, o := range s.d.Orders {
		t.Orders = append(t.Orders, between(r, o.Minute.Lo, o.Minute.Hi))
	}
	return t
}

// lets reports whether a sale lets the order trade.
func lets(d odd.Desk, o odd.Order, stock, price int) bool {
	if stock != o.Stock {
		return false
	}
	if o.Limit == 0 {
		return true
	}
	if o.Buy {
		return price+d.Fee <= o.Limit
	}
	return price-d.Fee >= o.Limit
}

// fillOf returns the fill of an order that comes at this minute.
func (s sample) fillOf(o odd.Order, minute int, prices, minutes []int) odd.Fill {
	for sale, p := range s.prints {
		if lets(s.d, o, p.Stock, prices[sale]) && minutes[sale] > minute {
			if o.Buy {
				return fill(sale, prices[sale]+s.d.Fee)
			}
			return fill(sale, max(0, prices[sale]-s.d.Fee))
		}
	}
	return none()
}

// fillsOf returns how often there is each fill of the order in all truths.
func (s sample) fillsOf(o odd.Order) map[odd.Fill]int {
	fills := map[odd.Fill]int{}
	for _, prices := range s.prices {
		for _, minutes := range s.minutes {
			for minute := o.Minute.Lo; minute <= o.Minute.Hi; minute++ {
				fills[s.fillOf(o, minute, prices, minutes)]++
			}
		}
	}
	return fills
}

// due is what is due of an order.
type due struct {
	sales   []int
	bounds  odd.Range
	verdict int
}

// dueOf returns what is due of the order, by all truths.
func (s sample) dueOf(o odd.Order) due {
	fills := s.fillsOf(o)
	var sales, prices []int
	for f := range fills {
		if f.Sale != odd.None {
			sales = append(sales, f.Sale)
			prices = append(prices, f.Price)
		}
	}
	if len(sales) == 0 {
		return due{verdict: odd.Never}
	}
	slices.Sort(sales)
	x := due{sales: slices.Compact(sales), bounds: to(slices.Min(prices), slices.Max(prices)), verdict: odd.Always}
	if fills[none()] > 0 {
		x.verdict = odd.Open
	}
	return x
}
