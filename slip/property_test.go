package slip_test

import (
	"math/rand"
	"slices"
	"strconv"
	"testing"

	"contango/api"
	"contango/hand"
	"contango/slip"
)

// TestP3_1Oracle compares Can with the definition.
func TestP3_1Oracle(t *testing.T) {
	yes := 0
	for _, d := range someDays(600) {
		for a := range d.Slips {
			for b := range d.Slips {
				if a == b {
					continue
				}
				due := canBe(d, a, b)
				if due {
					yes++
				}
				if got, e := slip.Can(d, a, b); got != due || e != api.OK {
					t.Fatalf("Can of %v, %d, %d: %v, %v", d, a, b, got, e)
				}
			}
		}
	}
	if yes < 1000 {
		t.Errorf("only %d slips can be partners", yes)
	}
}

// TestP3_2Oracle compares Deal with the definition.
func TestP3_2Oracle(t *testing.T) {
	var several [2]int
	for _, d := range someDays(1500) {
		for a := range d.Slips {
			for b := range d.Slips {
				if a == b || !canBe(d, a, b) {
					continue
				}
				dueP := both(valuesOf(d, d.Slips[a].Price), valuesOf(d, d.Slips[b].Price))
				dueN := both(valuesOf(d, d.Slips[a].Number), valuesOf(d, d.Slips[b].Number))
				several[0] += min(1, len(dueP)-1)
				several[1] += min(1, len(dueN)-1)
				prices, numbers, e := slip.Deal(d, a, b)
				if !slices.Equal(prices, dueP) || !slices.Equal(numbers, dueN) || e != api.OK {
					t.Fatalf("Deal of %v, %d, %d: %v, %v, %v", d, a, b, prices, numbers, e)
				}
			}
		}
	}
	if slices.Min(several[:]) < 50 {
		t.Errorf("only %d deals have several prices, and numbers", several)
	}
}

// TestP3_3Oracle compares ProveMatch with the definition: of lists that are
// nearly matchings, too.
func TestP3_3Oracle(t *testing.T) {
	r := rand.New(rand.NewSource(3))
	for _, d := range someDays(200) {
		all := graphOf(d).matchings()
		for range 20 {
			list := slices.Clone(pick(r, all...))
			if len(list) > 0 && r.Intn(2) == 0 {
				list[r.Intn(len(list))] = between(r, -2, len(list))
			}
			many := pairsIn(list) + pick(r, -1, 0, 0, 1)
			is := slices.ContainsFunc(all, func(m []int) bool { return slices.Equal(m, list) })
			if got := slip.ProveMatch(d, list, many); got != (is && pairsIn(list) >= many) {
				t.Fatalf("ProveMatch of %v, %v, %d: %v", d, list, many, got)
			}
		}
	}
}

// TestP3_5Oracle compares Sure and Possible with all best matchings.
func TestP3_5Oracle(t *testing.T) {
	unlike := 0
	for _, d := range someDays(1000) {
		best := graphOf(d).best()
		sure, possible := pairsOf(best, len(best)), pairsOf(best, 1)
		if len(sure) > 0 && len(sure) < len(possible) {
			unlike++
		}
		if l, e := slip.Sure(d); !isSame(l, sure) || e != api.OK {
			t.Fatalf("Sure of %v: %v, %v; want %v", d, l, e, sure)
		}
		if l, e := slip.Possible(d); !isSame(l, possible) || e != api.OK {
			t.Fatalf("Possible of %v: %v, %v; want %v", d, l, e, possible)
		}
	}
	if unlike < 50 {
		t.Errorf("only %d days have a sure pair, and one that is not sure", unlike)
	}
}

// TestP3_6Oracle compares Makers with all best matchings.
func TestP3_6Oracle(t *testing.T) {
	for _, d := range someDays(600) {
		best := graphOf(d).best()
		for i, s := range d.Slips {
			var due []int
			want := api.ErrNone
			if isLeft(best, i) {
				want = api.OK
				for house := range d.Houses {
					if house != s.House && slices.Contains(d.Signs[s.Sign], house) {
						due = append(due, house)
					}
				}
			}
			if l, e := slip.Makers(d, i); !slices.Equal(l, due) || e != want {
				t.Fatalf("Makers of %v, %d: %v, %v; want %v, %v", d, i, l, e, due, want)
			}
		}
	}
}

// sale is what truly happened; the day has two slips of it.
type sale struct {
	slips         [2]int
	price, number int
}

// trueDay returns a day with slips of sales that truly happened, of both sides
// of each one, and in between slips of one side only.
func trueDay(r *rand.Rand) (slip.Day, []sale) {
	d := slip.Day{Hand: someHand(r), Houses: between(r, 2, api.MaxSlipHouses), Late: between(r, 0, api.MaxSlipLate)}
	someSigns(r, &d)
	var sales []sale
	for range between(r, 1, api.MaxSlipSlips/2) {
		price, number := pick(r, "78", "18", "45/3", "1"), pick(r, "100", "700", "300", "8/1")
		buyer := r.Intn(d.Houses)
		seller := (buyer + between(r, 1, d.Houses-1)) % d.Houses
		minute := between(r, 0, api.MaxSlipMinute)
		other := min(api.MaxSlipMinute, minute+between(r, 0, d.Late))
		if r.Intn(2) == 0 {
			minute, other = other, minute
		}
		wrote := func(house, partner, minute int, isBuyer bool) {
			d.Slips = append(d.Slips, slip.Slip{
				House: house, Bought: isBuyer, Sign: signFor(r, &d, partner),
				Price: someNote(r, d.Hand, price), Number: someNote(r, d.Hand, number), Minute: someMinutes(r, minute),
			})
		}
		wrote(buyer, seller, minute, true)
		wrote(seller, buyer, other, false)
		p, _ := hand.Value(price)
		n, _ := hand.Value(number)
		sales = append(sales, sale{slips: [2]int{len(d.Slips) - 2, len(d.Slips) - 1}, price: p, number: n})
	}
	if len(d.Slips) < api.MaxSlipSlips {
		d.Slips = append(d.Slips, someSlip(r, d))
	}
	return d, sales
}

// signFor returns a sign that can mean the house.
func signFor(r *rand.Rand, d *slip.Day, house int) int {
	sign := r.Intn(len(d.Signs))
	if !slices.Contains(d.Signs[sign], house) {
		d.Signs[sign] = append(d.Signs[sign], house)
		slices.Sort(d.Signs[sign])
	}
	return sign
}

func TestP3_7TrueSales(t *testing.T) {
	r := rand.New(rand.NewSource(7))
	for range 1000 {
		d, sales := trueDay(r)
		for _, s := range sales {
			a, b := s.slips[0], s.slips[1]
			can, e := slip.Can(d, a, b)
			prices, numbers, f := slip.Deal(d, a, b)
			if !can || e != api.OK || f != api.OK || !slices.Contains(prices, s.price) || !slices.Contains(numbers, s.number) {
				t.Fatalf("%v, %v: Can %v, %v; Deal %v, %v, %v", d, s, can, e, prices, numbers, f)
			}
		}
		if l, e := slip.Match(d); !slip.ProveMatch(d, l, len(sales)) || e != api.OK {
			t.Fatalf("Match of %v: %v, %v; %d sales", d, l, e, len(sales))
		}
	}
}

func TestP3_8BothWays(t *testing.T) {
	for _, d := range someDays(600) {
		for a := range d.Slips {
			for b := range a {
				one, e := slip.Can(d, a, b)
				other, f := slip.Can(d, b, a)
				if one != other || e != api.OK || f != api.OK {
					t.Fatalf("Can of %v, %d, %d: %v, %v; %v, %v", d, a, b, one, e, other, f)
				}
				if one && d.Slips[a].Bought == d.Slips[b].Bought {
					t.Fatalf("Can of %v, %d, %d, which are of one side", d, a, b)
				}
			}
		}
	}
}

// checkMost compares Match and Cover of a day with a graph: with so many pairs
// as a best matching has, and as many slips as the shortest cover.
func checkMost(t *testing.T, d slip.Day, g graph) {
	t.Helper()
	most := g.most()
	match, e := slip.Match(d)
	if e != api.OK || pairsIn(match) != most || !slip.ProveMatch(d, match, most) {
		t.Fatalf("Match of %v: %v, %v; want %d pairs", d, match, e, most)
	}
	cover, e := slip.Cover(d)
	if e != api.OK || len(cover) != most || !g.isCovered(cover) || !slip.ProveCover(d, cover, most) {
		t.Fatalf("Cover of %v: %v, %v; want %d slips", d, cover, e, most)
	}
}

// TestP3_9NoMorePairs tries all matchings, and all lists of slips as covers.
func TestP3_9NoMorePairs(t *testing.T) {
	for _, d := range someDays(60) {
		g := graphOf(d)
		checkMost(t, d, g)
		most := g.most()
		for _, m := range g.matchings() {
			if !slip.ProveMatch(d, m, pairsIn(m)) || slip.ProveMatch(d, m, most+1) {
				t.Fatalf("ProveMatch of %v, %v", d, m)
			}
		}
		for _, list := range allLists(len(d.Slips)) {
			if slip.ProveCover(d, list, len(list)) != g.isCovered(list) || slip.ProveCover(d, list, most-1) {
				t.Fatalf("ProveCover of %v, %v", d, list)
			}
		}
	}
	for _, d := range someDays(1000) {
		checkMost(t, d, graphOf(d))
	}
}

// graphWith returns the graph of these pairs of so many slips.
func graphWith(slips int, pairs [][2]int) graph {
	g := make(graph, slips)
	for a := range g {
		g[a] = make([]bool, slips)
	}
	for _, p := range pairs {
		g[p[0]][p[1]], g[p[1]][p[0]] = true, true
	}
	return g
}

// TestP3_9AllGraphs tries all ways in which three slips of each side can be
// partners, and many of four.
func TestP3_9AllGraphs(t *testing.T) {
	r := rand.New(rand.NewSource(9))
	for bits := range 1 << 9 {
		d, pairs := pairsDay(3, bits)
		checkMost(t, d, graphWith(6, pairs))
	}
	for range 1000 {
		d, pairs := pairsDay(4, r.Intn(1<<16)&r.Intn(1<<16))
		checkMost(t, d, graphWith(8, pairs))
	}
}

// hasPair reports whether the pair is in the list.
func hasPair(list [][]int, a, b int) bool {
	return slices.ContainsFunc(list, func(p []int) bool { return slices.Equal(p, []int{a, b}) })
}

func TestP3_10Sure(t *testing.T) {
	for _, d := range someDays(600) {
		sure, _ := slip.Sure(d)
		possible, _ := slip.Possible(d)
		match, _ := slip.Match(d)
		for _, p := range sure {
			if !hasPair(possible, p[0], p[1]) || match[p[0]] != p[1] {
				t.Fatalf("%v: sure %v, possible %v, Match %v", d, sure, possible, match)
			}
		}
		for a, b := range match {
			if b > a && !hasPair(possible, a, b) {
				t.Fatalf("%v: possible %v, Match %v", d, possible, match)
			}
		}
		g := graphOf(d)
		for _, p := range possible {
			due := g.most()
			if hasPair(sure, p[0], p[1]) {
				due--
			}
			if most := g.without(p[0], p[1]).most(); most != due {
				t.Fatalf("%v: %v without %v; sure %v", d, most, p, sure)
			}
		}
	}
}

// TestP3_10Without: without a sure pair Match has one pair fewer, without
// another one it has as many.
func TestP3_10Without(t *testing.T) {
	r := rand.New(rand.NewSource(10))
	for range 600 {
		side := between(r, 1, 4)
		bits := r.Intn(1 << (side * side))
		d, pairs := pairsDay(side, bits)
		match, _ := slip.Match(d)
		sure, _ := slip.Sure(d)
		for _, p := range pairs {
			less, _ := pairsDay(side, bits&^(1<<(p[0]*side+p[1]-side)))
			due := pairsIn(match)
			if hasPair(sure, p[0], p[1]) {
				due--
			}
			if m, e := slip.Match(less); pairsIn(m) != due || e != api.OK {
				t.Fatalf("Match of %v without %v: %v, %v; sure %v", d, p, m, e, sure)
			}
		}
	}
}

// matchedIn returns how many pairs Match has, if it is one of the day.
func matchedIn(t *testing.T, d slip.Day) int {
	t.Helper()
	l, e := slip.Match(d)
	if e != api.OK || !slip.ProveMatch(d, l, 0) {
		t.Fatalf("Match of %v: %v, %v", d, l, e)
	}
	return pairsIn(l)
}

func TestP3_11OneMoreSlip(t *testing.T) {
	r := rand.New(rand.NewSource(11))
	var times [2]int
	for _, more := range someDays(1500) {
		if len(more.Slips) == 0 {
			continue
		}
		d := copyOf(more)
		one := r.Intn(len(d.Slips))
		d.Slips = slices.Delete(d.Slips, one, one+1)
		added := matchedIn(t, more) - matchedIn(t, d)
		if added != 0 && added != 1 {
			t.Fatalf("%v without the slip %d: %d fewer pairs", more, one, added)
		}
		times[added]++
	}
	if slices.Min(times[:]) < 100 {
		t.Errorf("with one more slip as many pairs, and one more: %v times", times)
	}
}

// edgesOf returns all pairs of slips that can be partners, by Can.
func edgesOf(t *testing.T, d slip.Day) map[[2]int]bool {
	t.Helper()
	edges := map[[2]int]bool{}
	for b := range d.Slips {
		for a := range b {
			can, e := slip.Can(d, a, b)
			if e != api.OK {
				t.Fatalf("Can of %v, %d, %d: %v", d, a, b, e)
			}
			if can {
				edges[[2]int{a, b}] = true
			}
		}
	}
	return edges
}

// lost returns how many of the pairs are not among the others.
func lost(pairs, others map[[2]int]bool) int {
	many := 0
	for p := range pairs {
		if !others[p] {
			many++
		}
	}
	return many
}

func TestP3_12MoreReadings(t *testing.T) {
	r := rand.New(rand.NewSource(12))
	fewer := 0
	for _, d := range someDays(1500) {
		if len(d.Slips) == 0 {
			continue
		}
		more := copyOf(d)
		s := &more.Slips[r.Intn(len(d.Slips))]
		if len(s.Price.Readings) == api.MaxHandReadings {
			continue
		}
		s.Price.Readings = append(s.Price.Readings, reading(r, d.Hand, pick(r, "78", "18", "73/1", "5")))
		before, after := edgesOf(t, d), edgesOf(t, more)
		fewer += lost(before, after)
		if lost(after, before) > 0 || matchedIn(t, more) > matchedIn(t, d) {
			t.Fatalf("%v: %v; with one more reading %v: %v", d, before, more, after)
		}
	}
	if fewer < 100 {
		t.Errorf("only %d pairs are lost", fewer)
	}
}

func TestP3_13Later(t *testing.T) {
	r := rand.New(rand.NewSource(13))
	var added [2]int
	for _, d := range someDays(1500) {
		wider := copyOf(d)
		way := r.Intn(len(added))
		sign := r.Intn(len(d.Signs))
		house := r.Intn(d.Houses)
		if way == 0 {
			wider.Late = between(r, d.Late, api.MaxSlipLate)
		} else if !slices.Contains(d.Signs[sign], house) {
			wider.Signs[sign] = append(wider.Signs[sign], house)
			slices.Sort(wider.Signs[sign])
		}
		before, after := edgesOf(t, d), edgesOf(t, wider)
		added[way] += lost(after, before)
		if lost(before, after) > 0 || matchedIn(t, wider) < matchedIn(t, d) {
			t.Fatalf("%v: %v; %v: %v", d, before, wider, after)
		}
	}
	if slices.Min(added[:]) < 30 {
		t.Errorf("only %d pairs are added by a greater Late, and by signs", added)
	}
}

// moved returns the pairs of slips that are now at other indexes.
func moved(pairs [][]int, to []int) [][]int {
	var list [][]int
	for _, p := range pairs {
		a, b := to[p[0]], to[p[1]]
		list = append(list, []int{min(a, b), max(a, b)})
	}
	slices.SortFunc(list, slices.Compare)
	return list
}

func TestP3_14Order(t *testing.T) {
	r := rand.New(rand.NewSource(14))
	for _, d := range someDays(600) {
		other := copyOf(d)
		to := r.Perm(len(d.Slips))
		for i, s := range d.Slips {
			other.Slips[to[i]] = s
		}
		if a, b := matchedIn(t, d), matchedIn(t, other); a != b {
			t.Fatalf("Match of %v: %d pairs, in another order %d", d, a, b)
		}
		sure, _ := slip.Sure(d)
		turned, _ := slip.Sure(other)
		if !isSame(moved(sure, to), turned) {
			t.Fatalf("Sure of %v: %v; in the order %v: %v", d, sure, to, turned)
		}
		possible, _ := slip.Possible(d)
		turned, _ = slip.Possible(other)
		if !isSame(moved(possible, to), turned) {
			t.Fatalf("Possible of %v: %v; in the order %v: %v", d, possible, to, turned)
		}
		for i := range d.Slips {
			l, e := slip.Makers(d, i)
			m, f := slip.Makers(other, to[i])
			if !slices.Equal(l, m) || e != f {
				t.Fatalf("Makers of %v, %s: %v, %v; in another order %v, %v", d, strconv.Itoa(i), l, e, m, f)
			}
		}
	}
}

func TestP3_15Makers(t *testing.T) {
	left := 0
	for _, d := range someDays(600) {
		match, _ := slip.Match(d)
		for i, s := range d.Slips {
			l, e := slip.Makers(d, i)
			if match[i] == slip.None {
				left++
				if e != api.OK {
					t.Fatalf("Makers of %v, %d: %v; Match %v", d, i, e, match)
				}
			}
			if slices.Contains(l, s.House) {
				t.Fatalf("Makers of %v, %d: %v", d, i, l)
			}
		}
	}
	if left < 300 {
		t.Errorf("only %d slips are left over", left)
	}
}
