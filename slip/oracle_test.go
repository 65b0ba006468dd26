package slip_test

import (
	"math/rand"
	"slices"

	"contango/api"
	"contango/hand"
	"contango/slip"
)

// The oracle follows the chapter's definitions, and tries everything: all
// minutes, all matchings, all covers.

// graph tells of each two slips whether they can be partners.
type graph [][]bool

// valuesOf returns the Values of a note: none, if its readings contradict each other.
func valuesOf(d slip.Day, n hand.Note) []int {
	list, _ := hand.Values(d.Hand, n)
	return list
}

// both returns the numbers that are in both lists.
func both(a, b []int) []int {
	var list []int
	for _, n := range a {
		if slices.Contains(b, n) {
			list = append(list, n)
		}
	}
	return list
}

// meet reports whether some minute of one range differs by at most late from
// some minute of the other one.
func meet(a, b slip.Range, late int) bool {
	for x := a.Lo; x <= a.Hi; x++ {
		for y := b.Lo; y <= b.Hi; y++ {
			if x-y <= late && y-x <= late {
				return true
			}
		}
	}
	return false
}

// canBe reports whether the slips can be partners.
func canBe(d slip.Day, a, b int) bool {
	x, y := d.Slips[a], d.Slips[b]
	if x.Bought == y.Bought || x.House == y.House || !meet(x.Minute, y.Minute, d.Late) {
		return false
	}
	if !slices.Contains(d.Signs[x.Sign], y.House) || !slices.Contains(d.Signs[y.Sign], x.House) {
		return false
	}
	prices := both(valuesOf(d, x.Price), valuesOf(d, y.Price))
	numbers := both(valuesOf(d, x.Number), valuesOf(d, y.Number))
	return len(prices) > 0 && len(numbers) > 0
}

// graphOf returns which slips of the day can be partners.
func graphOf(d slip.Day) graph {
	g := make(graph, len(d.Slips))
	for a := range g {
		g[a] = make([]bool, len(g))
		for b := range g {
			g[a][b] = a != b && canBe(d, a, b)
		}
	}
	return g
}

// matchings returns all matchings.
func (g graph) matchings() [][]int {
	var out [][]int
	m := slices.Repeat([]int{slip.None}, len(g))
	var match func(a int)
	match = func(a int) {
		if a == len(g) {
			out = append(out, slices.Clone(m))
			return
		}
		match(a + 1)
		if m[a] != slip.None {
			return
		}
		for b := a + 1; b < len(g); b++ {
			if g[a][b] && m[b] == slip.None {
				m[a], m[b] = b, a
				match(a + 1)
				m[a], m[b] = slip.None, slip.None
			}
		}
	}
	match(0)
	return out
}

// pairsIn returns how many pairs a matching has.
func pairsIn(m []int) int {
	many := 0
	for a, b := range m {
		if b > a {
			many++
		}
	}
	return many
}

// best returns all best matchings.
func (g graph) best() [][]int {
	all := g.matchings()
	most := 0
	for _, m := range all {
		most = max(most, pairsIn(m))
	}
	return slices.DeleteFunc(all, func(m []int) bool { return pairsIn(m) < most })
}

// most returns how many pairs a best matching has.
func (g graph) most() int { return pairsIn(g.best()[0]) }

// pairsOf returns all pairs whose slips are partners in so many of the matchings, at least.
func pairsOf(all [][]int, many int) [][]int {
	var list [][]int
	for a := range all[0] {
		for b := a + 1; b < len(all[0]); b++ {
			times := 0
			for _, m := range all {
				if m[a] == b {
					times++
				}
			}
			if times >= many {
				list = append(list, []int{a, b})
			}
		}
	}
	return list
}

// isLeft reports whether the slip has no partner in some of the matchings.
func isLeft(all [][]int, a int) bool {
	return slices.ContainsFunc(all, func(m []int) bool { return m[a] == slip.None })
}

// isCovered reports whether the list has one at least of any two slips that can be partners.
func (g graph) isCovered(list []int) bool {
	for a := range g {
		for b := range g {
			if g[a][b] && !slices.Contains(list, a) && !slices.Contains(list, b) {
				return false
			}
		}
	}
	return true
}

// allLists returns all increasing lists of slips.
func allLists(slips int) [][]int {
	var out [][]int
	for bits := range 1 << slips {
		var list []int
		for i := range slips {
			if bits>>i&1 == 1 {
				list = append(list, i)
			}
		}
		out = append(out, list)
	}
	return out
}

// without returns the graph in which the two slips may not be partners.
func (g graph) without(a, b int) graph {
	var kept graph
	for _, row := range g {
		kept = append(kept, slices.Clone(row))
	}
	kept[a][b], kept[b][a] = false, false
	return kept
}

// pick returns one of the elements.
func pick[T any](r *rand.Rand, list ...T) T { return list[r.Intn(len(list))] }

// between returns a number of the range.
func between(r *rand.Rand, low, high int) int { return low + r.Intn(high-low+1) }

// someHand returns a valid hand.
func someHand(r *rand.Rand) hand.Hand {
	h := hand.Hand{Errors: between(r, 0, api.MaxHandErrors)}
	for range between(r, 1, api.MaxHandClerks) {
		var clerk []hand.Pair
		for range between(r, 0, api.MaxHandPairs) {
			p := hand.Pair{Written: pick(r, 1, 3, 7, 8), Read: pick(r, 1, 3, 7, 8)}
			if p.Written != p.Read && !slices.Contains(clerk, p) {
				clerk = append(clerk, p)
			}
		}
		h.Clerks = append(h.Clerks, clerk)
	}
	return h
}

// readBy returns what the clerk can read the text as.
func readBy(r *rand.Rand, h hand.Hand, clerk int, text string) string {
	read := []byte(text)
	left := h.Errors
	for i, b := range read {
		for _, p := range h.Clerks[clerk] {
			if left > 0 && int(b)-'0' == p.Written && r.Intn(2) == 0 {
				read[i] = byte('0' + p.Read)
				left--
				break
			}
		}
	}
	return string(read)
}

// checkOf returns the check figure of the text.
func checkOf(text string) int {
	sum := 0
	for _, b := range []byte(text) {
		if b != '/' {
			sum += int(b) - '0'
		}
	}
	return sum % 9
}

// reading returns one that the text can be read as.
func reading(r *rand.Rand, h hand.Hand, text string) hand.Reading {
	clerk := r.Intn(len(h.Clerks))
	return hand.Reading{Clerk: clerk, Text: readBy(r, h, clerk, text)}
}

// someNote returns a note of what can be read of the text.
func someNote(r *rand.Rand, h hand.Hand, text string) hand.Note {
	n := hand.Note{Check: pick(r, hand.None, hand.None, checkOf(text))}
	for range pick(r, 1, 1, 2, between(r, 1, api.MaxHandReadings)) {
		n.Readings = append(n.Readings, reading(r, h, text))
	}
	return n
}

// someMinutes returns a range with this minute.
func someMinutes(r *rand.Rand, minute int) slip.Range {
	return to(max(0, minute-pick(r, 0, 0, 1, 5)), min(api.MaxSlipMinute, minute+pick(r, 0, 0, 1, 5)))
}

// someSlip returns a slip of the day. Some are much alike, so that they can be
// of one sale.
func someSlip(r *rand.Rand, d slip.Day) slip.Slip {
	s := slip.Slip{House: r.Intn(d.Houses), Bought: r.Intn(2) == 0, Sign: r.Intn(len(d.Signs))}
	s.Price = someNote(r, d.Hand, pick(r, "78", "78", "78", "18", "73/1"))
	s.Number = someNote(r, d.Hand, pick(r, "17", "17", "17", "71", "100"))
	s.Minute = someMinutes(r, pick(r, 10, 10, 12, 15, 30, between(r, 0, api.MaxSlipMinute)))
	if r.Intn(10) == 0 {
		s.Price.Readings[0].Text = pick(r, "05", "3", "45/8")
	}
	return s
}

// someSigns gives the day signs, which each can mean most of the houses.
func someSigns(r *rand.Rand, d *slip.Day) {
	for range between(r, 1, api.MaxSlipSigns) {
		var sign []int
		for house := range d.Houses {
			if r.Intn(6) > 0 {
				sign = append(sign, house)
			}
		}
		d.Signs = append(d.Signs, sign)
	}
}

// someDay returns a valid day.
func someDay(r *rand.Rand) slip.Day {
	d := slip.Day{Hand: someHand(r), Houses: between(r, 1, api.MaxSlipHouses), Late: pick(r, 0, 2, 5, 10, 30)}
	someSigns(r, &d)
	for range min(api.MaxSlipSlips, between(r, 0, api.MaxSlipSlips+4)) {
		d.Slips = append(d.Slips, someSlip(r, d))
	}
	return d
}

// someDays returns so many days, always the same ones: half of them have any
// slips, half of them any pairs that can be partners.
func someDays(many int) []slip.Day {
	r := rand.New(rand.NewSource(1907))
	var list []slip.Day
	for range many / 2 {
		list = append(list, someDay(r))
		d, _ := pairsDay(between(r, 1, 4), r.Intn(1<<16)&r.Intn(1<<16))
		r.Shuffle(len(d.Slips), func(i, j int) { d.Slips[i], d.Slips[j] = d.Slips[j], d.Slips[i] })
		list = append(list, d)
	}
	return list
}

// pairsDay returns a day with so many slips of each side, at most 4, of which
// those can be partners that the bits say: each slip that bought has a sign of
// its own for this. It returns these pairs, too.
func pairsDay(side, bits int) (slip.Day, [][2]int) {
	d := slip.Day{Hand: exampleHand(), Houses: side + 1, Signs: make([][]int, side+1)}
	var pairs [][2]int
	d.Signs[side] = []int{0}
	for a := range side {
		for b := range side {
			if bits>>(a*side+b)&1 == 1 {
				d.Signs[a] = append(d.Signs[a], b+1)
				pairs = append(pairs, [2]int{a, side + b})
			}
		}
		d.Slips = append(d.Slips, bought(0, a, note("5"), note("1"), to(0, 0)))
	}
	for b := range side {
		d.Slips = append(d.Slips, sold(b+1, side, note("5"), note("1"), to(0, 0)))
	}
	return d, pairs
}
