package corner_test

import (
	"math/rand"
	"slices"

	"contango/api"
	"contango/corner"
)

// The oracle follows the chapter's definitions in all truths, share by share, and
// tries all settlements and all sets of houses. Samples are markets with few truths;
// for wide ranges the ends are found house by house.

// pick returns one of the elements.
func pick[T any](r *rand.Rand, list ...T) T { return list[r.Intn(len(list))] }

// between returns a number of the range.
func between(r *rand.Rand, low, high int) int { return low + r.Intn(high-low+1) }

// total returns the sum of the numbers.
func total(list []int) (sum int) {
	for _, n := range list {
		sum += n
	}
	return sum
}

// clone returns the market in memory of its own.
func clone(m corner.Market) corner.Market {
	m.Houses, m.Contracts = slices.Clone(m.Houses), slices.Clone(m.Contracts)
	return m
}

// someContract returns a contract of a market with so many houses, at least 2.
func someContract(r *rand.Rand, houses, shares int) corner.Contract {
	short := r.Intn(houses)
	long := (short + 1 + r.Intn(houses-1)) % houses
	return owes(short, long, between(r, 1, shares))
}

// spread returns so many numbers with this sum.
func spread(r *rand.Rand, many, sum int) []int {
	l := make([]int, many)
	for range sum {
		l[r.Intn(many)]++
	}
	return l
}

// someMarket returns a market of so many houses, with a truth, and with ranges that
// are at most so wide.
func someMarket(r *rand.Rand, houses, exist, wide int) corner.Market {
	m := corner.Market{Exist: exist}
	for _, n := range spread(r, houses, exist) {
		held := to(max(n-r.Intn(wide+1), 0), min(n+r.Intn(wide+1), api.MaxCornerShares))
		m.Houses = append(m.Houses, corner.House{Held: held, Sells: r.Intn(5) > 1, Ask: pick(r, 0, 1, 2, 2, 3, 50, 1000)})
	}
	if houses > 1 {
		for range pick(r, 0, 1, 2, 2, 3, 5, api.MaxCornerContracts) {
			m.Contracts = append(m.Contracts, someContract(r, houses, pick(r, 2, exist, exist)))
		}
	}
	return m
}

// smallMarket returns a market with few shares, and few truths.
func smallMarket(r *rand.Rand) corner.Market {
	return someMarket(r, between(r, 1, 5), pick(r, 1, 3, 6, 9, 12), pick(r, 0, 1, 2, 3))
}

// wideMarket returns a market with many shares, and many truths.
func wideMarket(r *rand.Rand) corner.Market {
	return someMarket(r, between(r, 1, api.MaxCornerHouses), pick(r, 1, 20, 60, 200), pick(r, 5, 20, 60, 200))
}

// markets returns so many small markets.
func markets(seed int64, many int) []corner.Market {
	r := rand.New(rand.NewSource(seed))
	var list []corner.Market
	for range many {
		list = append(list, smallMarket(r))
	}
	return list
}

// allTruths returns all truths of the market.
func allTruths(m corner.Market) [][]int {
	all := [][]int{nil}
	for _, h := range m.Houses {
		var next [][]int
		for _, truth := range all {
			for n := h.Held.Lo; n <= h.Held.Hi; n++ {
				next = append(next, append(slices.Clone(truth), n))
			}
		}
		all = next
	}
	return slices.DeleteFunc(all, func(truth []int) bool { return total(truth) != m.Exist })
}

// positionOf returns the position of the house in the truth.
func positionOf(m corner.Market, truth []int, house int) int {
	n := truth[house]
	for _, c := range m.Contracts {
		if c.Long == house {
			n += c.Shares
		}
		if c.Short == house {
			n -= c.Shares
		}
	}
	return n
}

// needOf returns the need of the house in the truth.
func needOf(m corner.Market, truth []int, house int) int {
	if n := positionOf(m, truth, house); n < 0 {
		return -n
	}
	return 0
}

// spareOf returns the spare shares of the house in the truth.
func spareOf(m corner.Market, truth []int, house int) int {
	if n := positionOf(m, truth, house); n > 0 && m.Houses[house].Sells {
		return n
	}
	return 0
}

// shortageOf returns the shortage in the truth.
func shortageOf(m corner.Market, truth []int) (sum int) {
	for house := range m.Houses {
		sum += needOf(m, truth, house) - spareOf(m, truth, house)
	}
	return sum
}

// boundsOf returns the bounds of the shortage in these truths.
func boundsOf(m corner.Market, truths [][]int) corner.Range {
	var x corner.Range
	for i, truth := range truths {
		n := shortageOf(m, truth)
		if i == 0 {
			x = to(n, n)
		}
		x = to(min(x.Lo, n), max(x.Hi, n))
	}
	return x
}

// forward returns the bounds of the shortage, house by house for each number of
// shares that all up to this one can hold.
func forward(m corner.Market) corner.Range {
	reached := map[int]corner.Range{0: {}}
	for house, h := range m.Houses {
		next := map[int]corner.Range{}
		for sum, x := range reached {
			for n := h.Held.Lo; n <= h.Held.Hi && sum+n <= m.Exist; n++ {
				truth := make([]int, len(m.Houses))
				truth[house] = n
				more := needOf(m, truth, house) - spareOf(m, truth, house)
				low, high := x.Lo+more, x.Hi+more
				if y, ok := next[sum+n]; ok {
					low, high = min(low, y.Lo), max(high, y.Hi)
				}
				next[sum+n] = to(low, high)
			}
		}
		reached = next
	}
	return reached[m.Exist]
}

// isAlways reports whether the stock is cornered in each of the truths.
func isAlways(m corner.Market, truths [][]int) bool { return boundsOf(m, truths).Lo > 0 }

// subset returns the increasing list of the numbers that are in the set.
func subset(set int) []int {
	var l []int
	for i := range api.MaxCornerHouses {
		if set&(1<<i) != 0 {
			l = append(l, i)
		}
	}
	return l
}

// isCorner reports whether the list is a corner: the truths are the same if houses
// would not sell.
func isCorner(m corner.Market, truths [][]int, l []int) bool {
	for _, house := range l {
		if !m.Houses[house].Sells {
			return false
		}
	}
	return isAlways(shut(m, l...), truths)
}

// smallest returns the smallest of all lists of houses that fit, and whether there
// is one.
func smallest(m corner.Market, fits func([]int) bool) (best []int, found bool) {
	for set := range 1 << len(m.Houses) {
		l := subset(set)
		isBefore := !found || len(l) < len(best) || len(l) == len(best) && slices.Compare(l, best) < 0
		if isBefore && fits(l) {
			best, found = l, true
		}
	}
	return best, found
}

// leftOut returns the market in which these houses are left out.
func leftOut(m corner.Market, houses []int) corner.Market {
	m = clone(m)
	for _, house := range houses {
		m.Houses[house].Held = to(0, m.Exist)
	}
	return m
}

// canHave reports whether the market has a truth: share by share, from the least
// that houses hold on.
func canHave(m corner.Market) bool {
	sum, room := 0, 0
	for _, h := range m.Houses {
		sum += h.Held.Lo
		room += h.Held.Hi - h.Held.Lo
	}
	for ; sum < m.Exist && room > 0; room-- {
		sum++
	}
	return sum == m.Exist
}

// isSettled reports whether the sales are a settlement in the truth: what each house
// sells and buys is added up, sale by sale.
func isSettled(m corner.Market, truth []int, l []corner.Sale) bool {
	sells, buys := make([]int, len(m.Houses)), make([]int, len(m.Houses))
	for _, s := range l {
		isOne := s.From >= 0 && s.From < len(m.Houses) && s.To >= 0 && s.To < len(m.Houses) && s.From != s.To
		if !isOne || s.Shares < 1 || s.Shares > 1<<20 {
			return false
		}
		sells[s.From] += s.Shares
		buys[s.To] += s.Shares
	}
	for house := range m.Houses {
		if sells[house] > spareOf(m, truth, house) || buys[house] != needOf(m, truth, house) {
			return false
		}
	}
	return true
}

// costOf returns the cost of the sales.
func costOf(m corner.Market, l []corner.Sale) (sum int) {
	for _, s := range l {
		for range s.Shares {
			sum += m.Houses[s.From].Ask
		}
	}
	return sum
}

// cheapest returns the least cost of all ways in which houses sell together what is
// needed, or -1 if there is none.
func cheapest(m corner.Market, truth []int) int {
	best := -1
	var sell func(house, left, cost int)
	sell = func(house, left, cost int) {
		if left == 0 && (best < 0 || cost < best) {
			best = cost
		}
		if house == len(m.Houses) {
			return
		}
		for n := 0; n <= spareOf(m, truth, house) && n <= left; n++ {
			sell(house+1, left-n, cost+n*m.Houses[house].Ask)
		}
	}
	needed := 0
	for house := range m.Houses {
		needed += needOf(m, truth, house)
	}
	sell(0, needed, 0)
	return best
}

// someSettlement returns a settlement in the truth: share by share some house sells
// to some other one. The stock must not be cornered.
func someSettlement(r *rand.Rand, m corner.Market, truth []int) []corner.Sale {
	var sellers, buyers []int
	for house := range m.Houses {
		sellers = append(sellers, slices.Repeat([]int{house}, spareOf(m, truth, house))...)
		buyers = append(buyers, slices.Repeat([]int{house}, needOf(m, truth, house))...)
	}
	r.Shuffle(len(sellers), func(i, j int) { sellers[i], sellers[j] = sellers[j], sellers[i] })
	var l []corner.Sale
	for i, house := range buyers {
		s := sold(1, sellers[i], house)
		if last := len(l) - 1; last >= 0 && l[last].From == s.From && l[last].To == s.To && r.Intn(2) == 0 {
			l[last].Shares++
		} else {
			l = append(l, s)
		}
	}
	return l
}
