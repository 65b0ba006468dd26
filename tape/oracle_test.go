package tape_test

import (
	"math/rand"
	"slices"
	"strconv"
	"strings"

	"contango/api"
	"contango/tape"
)

// The oracle follows the chapter's definitions, and tries everything. Samples
// are tapes that are made with what is read from them.

// sample is a valid board and tape, with what has to be read from it; and what
// truly happened, if it is a true one.
type sample struct {
	b                        tape.Board
	tape                     string
	prints                   []tape.Print
	numbers, prices, minutes []int
}

// sales returns the sales as they can be written.
func (s sample) sales() []tape.Sale {
	var list []tape.Sale
	for i, p := range s.prints {
		list = append(list, sold(p.Stock, s.numbers[i], s.prices[i], p.Minute))
	}
	return list
}

// pick returns one of the elements.
func pick[T any](r *rand.Rand, list ...T) T { return list[r.Intn(len(list))] }

// rarely is true once in so many times.
func rarely(r *rand.Rand, times int) bool { return r.Intn(times) == 0 }

// between returns a number of the range.
func between(r *rand.Rand, low, high int) int { return low + r.Intn(high-low+1) }

// someBoard returns a valid board.
func someBoard(r *rand.Rand) tape.Board {
	b := tape.Board{Jump: pick(r, 0, 1, 5, 10, 30, 39, 40), Small: between(r, 1, api.MaxTapeSmall)}
	names := []string{"A", "L", "LL", "BC", "XYZ", "ABC"}
	r.Shuffle(len(names), func(i, j int) { names[i], names[j] = names[j], names[i] })
	for i := range between(r, 1, api.MaxTapeStocks) {
		low := pick(r, 1, 2, 20, 79, 80, 300, 700, 798, 799, between(r, 1, api.MaxTapePrice))
		high := min(low+pick(r, 0, 0, 1, 10, 80, 200), api.MaxTapePrice)
		b.Stocks = append(b.Stocks, tape.Stock{Name: names[i], Start: to(low, high)})
	}
	return b
}

// teller makes a sample, token by token.
type teller struct {
	sample
	r      *rand.Rand
	tokens []string
	state  tape.Print // the stock, the minute and the lateness at the end of the tape
	rush   bool
	last   []tape.Range // from which the next sale of each stock jumps
	isTrue bool
}

// happen adds a sale, with all that has to be told of it.
func (t *teller) happen(minute int) {
	stock := t.r.Intn(len(t.b.Stocks))
	price := between(t.r, max(1, t.last[stock].Lo-t.b.Jump), min(api.MaxTapePrice, t.last[stock].Hi+t.b.Jump))
	number := pick(t.r, 1, 1, 1, 2, between(t.r, 1, 9), between(t.r, 1, 99))
	t.last[stock] = one(price)
	t.numbers = append(t.numbers, number)
	t.prices = append(t.prices, price)
	t.minutes = append(t.minutes, minute)
	var tokens []string
	tokens = append(tokens, t.tellTime(minute)...)
	if t.state.Stock != stock || rarely(t.r, 8) {
		tokens = append(tokens, t.b.Stocks[stock].Name)
	}
	if rarely(t.r, 4) {
		tokens = append(tokens, map[bool]string{false: "!", true: "?"}[t.rush])
		t.rush = !t.rush
	}
	t.r.Shuffle(len(tokens), func(i, j int) { tokens[i], tokens[j] = tokens[j], tokens[i] })
	t.state.Stock = stock
	p := t.state
	p.Number = one(number)
	switch {
	case t.rush && number <= t.b.Small && !rarely(t.r, 3):
		p.Number = to(1, t.b.Small)
	case t.rush || number != 1 || rarely(t.r, 8):
		tokens = append(tokens, strconv.Itoa(number)+"s")
	}
	p.Full = rarely(t.r, 6)
	if !t.isTrue && rarely(t.r, 5) {
		price = between(t.r, 1, api.MaxTapePrice)
	}
	tokens = append(tokens, priceToken(price, p.Full))
	p.Figures = price
	if !p.Full {
		p.Figures = price % 80
	}
	t.tokens = append(t.tokens, tokens...)
	t.prints = append(t.prints, p)
}

// tellTime returns the tokens by which a sale of this minute can be printed next.
func (t *teller) tellTime(minute int) []string {
	var tokens []string
	printed := max(minute, t.state.Minute)
	if rarely(t.r, 3) {
		printed += t.r.Intn(5)
	}
	if printed != t.state.Minute || rarely(t.r, 10) {
		tokens = append(tokens, "@"+strconv.Itoa(printed))
	}
	t.state.Minute = printed
	late := t.state.Late
	if delay := printed - minute; delay < late.Lo || delay > late.Hi || rarely(t.r, 6) {
		late = to(max(0, delay-t.r.Intn(4)), delay+t.r.Intn(4))
	}
	if !t.isTrue && rarely(t.r, 6) {
		late = pick(t.r, one(0), to(0, 9), one(5), to(2, 60))
	}
	if late != t.state.Late {
		tokens = append(tokens, "L"+strconv.Itoa(late.Lo)+"-"+strconv.Itoa(late.Hi))
	}
	t.state.Late = late
	return tokens
}

// priceToken returns the token of a price.
func priceToken(price int, isFull bool) string {
	if isFull {
		return "$" + strconv.Itoa(price/8) + "." + strconv.Itoa(price%8)
	}
	return strconv.Itoa(price%80/8) + "." + strconv.Itoa(price%8)
}

// someSample returns a sample of so many sales at most.
func someSample(r *rand.Rand, most int, isTrue bool) sample {
	t := teller{sample: sample{b: someBoard(r)}, r: r, isTrue: isTrue, state: tape.Print{Stock: -1}}
	for _, s := range t.b.Stocks {
		t.last = append(t.last, s.Start)
	}
	minute := r.Intn(5)
	for range r.Intn(most + 1) {
		minute += pick(r, 0, 0, 1, 3)
		t.happen(minute)
	}
	t.tape = strings.Join(t.tokens, " ")
	return t.sample
}

// samples returns so many samples, always the same ones.
func samples(many int, isTrue bool) []sample {
	r := rand.New(rand.NewSource(1901))
	var list []sample
	for len(list) < many {
		if s := someSample(r, api.MaxTapeSales, isTrue); len(s.tape) <= api.MaxTapeBytes {
			list = append(list, s)
		}
	}
	return list
}

// prints reports whether a sale at the price can be printed like this.
func prints(p tape.Print, price int) bool {
	if p.Full {
		return price == p.Figures
	}
	return price%80 == p.Figures
}

// isNear reports whether the price differs from some price of the range by at most the jump.
func isNear(from tape.Range, price, jump int) bool {
	for p := from.Lo; p <= from.Hi; p++ {
		if price-p <= jump && p-price <= jump {
			return true
		}
	}
	return false
}

// before returns for each sale the one of the same stock before it, or -1.
func before(list []tape.Print) []int {
	last := map[int]int{}
	var out []int
	for i, p := range list {
		j, ok := last[p.Stock]
		if !ok {
			j = -1
		}
		out = append(out, j)
		last[p.Stock] = i
	}
	return out
}

// isTruth reports whether the prices are a truth.
func isTruth(b tape.Board, list []tape.Print, prices []int) bool {
	for i, p := range list {
		from := b.Stocks[p.Stock].Start
		if j := before(list)[i]; j >= 0 {
			from = one(prices[j])
		}
		if prices[i] < 1 || prices[i] > api.MaxTapePrice || !prints(p, prices[i]) || !isNear(from, prices[i], b.Jump) {
			return false
		}
	}
	return true
}

// truths returns all truths in lexicographic order, and whether they are no
// more than so many.
func truths(b tape.Board, list []tape.Print, most int) ([][]int, bool) {
	var out [][]int
	last := before(list)
	prices := make([]int, len(list))
	var try func(i int)
	try = func(i int) {
		if len(out) > most {
			return
		}
		if i == len(list) {
			out = append(out, slices.Clone(prices))
			return
		}
		from := b.Stocks[list[i].Stock].Start
		if last[i] >= 0 {
			from = one(prices[last[i]])
		}
		for price := 1; price <= api.MaxTapePrice; price++ {
			if prints(list[i], price) && isNear(from, price, b.Jump) {
				prices[i] = price
				try(i + 1)
			}
		}
	}
	try(0)
	return out, len(out) <= most
}

// hasTruth reports whether there is a truth without what is printed of the
// prices of these sales. It goes over the prices of a stock, sale by sale.
func hasTruth(b tape.Board, list []tape.Print, left []int) bool {
	for stock, s := range b.Stocks {
		can := map[int]bool{}
		for price := s.Start.Lo; price <= s.Start.Hi; price++ {
			can[price] = true
		}
		for i, p := range list {
			if p.Stock != stock {
				continue
			}
			next := map[int]bool{}
			for from := range can {
				for price := max(1, from-b.Jump); price <= min(api.MaxTapePrice, from+b.Jump); price++ {
					if slices.Contains(left, i) || prints(p, price) {
						next[price] = true
					}
				}
			}
			can = next
		}
		if len(can) == 0 {
			return false
		}
	}
	return true
}

// chosen returns the indexes of the bits that are set, in increasing order.
func chosen(set int) []int {
	var list []int
	for i := 0; set>>i > 0; i++ {
		if set>>i&1 == 1 {
			list = append(list, i)
		}
	}
	return list
}

// isSmaller reports whether the list is shorter, or as long and smaller at the
// first index at which they differ.
func isSmaller(a, b []int) bool {
	return len(a) < len(b) || len(a) == len(b) && slices.Compare(a, b) < 0
}

// isRight reports whether in some right minutes that of the sale is this one.
func isRight(list []tape.Print, sale, minute int) bool {
	last := -1 << 62
	for i, p := range list {
		low, high := p.Minute-p.Late.Hi, p.Minute-p.Late.Lo
		if i == sale {
			low, high = max(low, minute), min(high, minute)
		}
		last = max(last, low)
		if last > high {
			return false
		}
	}
	return true
}

// allRight returns the bounds of the minutes of all sales, and whether there are right ones.
func allRight(list []tape.Print) ([]tape.Range, bool) {
	var out []tape.Range
	for i, p := range list {
		var right []int
		for minute := p.Minute - api.MaxTapeLate; minute <= p.Minute; minute++ {
			if isRight(list, i, minute) {
				right = append(right, minute)
			}
		}
		if len(right) == 0 {
			return nil, false
		}
		out = append(out, to(right[0], right[len(right)-1]))
	}
	return out, true
}

// place is where a tape can have come to when some of the sales are said.
type place struct {
	stock, minute, number, said int
	rush, late                  bool
}

// moves returns the places that the tape can come to next, each with its token;
// not those from which the sales cannot be said any more.
func (p place) moves(b tape.Board, sales []tape.Sale) map[string]place {
	list := map[string]place{}
	s := sales[p.said]
	if p.number == 0 {
		for stock, x := range b.Stocks {
			q := p
			q.stock = stock
			list[x.Name] = q
		}
		for minute := p.minute; minute <= s.Minute; minute++ {
			q := p
			q.minute = minute
			list["@"+strconv.Itoa(minute)] = q
		}
		q := p
		q.number = s.Number
		list[strconv.Itoa(s.Number)+"s"] = q
		q = p
		q.rush = !p.rush
		list[map[bool]string{false: "!", true: "?"}[p.rush]] = q
		q = p
		q.late = !p.late
		list[map[bool]string{false: "L0-1", true: "L0-0"}[p.late]] = q
	}
	number := one(1)
	if p.number > 0 {
		number = one(p.number)
	} else if p.rush {
		number = to(1, b.Small)
	}
	if p.stock == s.Stock && p.minute == s.Minute && number == one(s.Number) {
		q := p
		q.number = 0
		q.said++
		list[priceToken(s.Price, false)] = q
		list[priceToken(s.Price, true)] = q
	}
	return list
}

// isBefore reports whether the tape is shorter, or as long and first as a string.
func isBefore(a, b string) bool { return len(a) < len(b) || len(a) == len(b) && a < b }

// shortestTape tries all ways of saying the sales, and returns the shortest one.
func shortestTape(b tape.Board, sales []tape.Sale) string {
	if len(sales) == 0 {
		return ""
	}
	start := place{stock: -1}
	best := map[place]string{start: ""}
	work := []place{start}
	shortest := strings.Repeat("~", api.MaxTapeBytes+1)
	for len(work) > 0 {
		p := work[0]
		work = work[1:]
		for token, q := range p.moves(b, sales) {
			said := strings.TrimPrefix(best[p]+" "+token, " ")
			if q.said == len(sales) {
				if isBefore(said, shortest) {
					shortest = said
				}
				continue
			}
			if old, ok := best[q]; !ok || isBefore(said, old) {
				best[q] = said
				work = append(work, q)
			}
		}
	}
	return shortest
}
