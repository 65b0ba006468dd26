package corner_test

import (
	"slices"
	"testing"

	"contango/api"
	"contango/corner"
)

// farthest and lowest are the ends of all ints.
const (
	farthest = 1<<63 - 1
	lowest   = -1 << 63
)

// to returns the range with these ends.
func to(low, high int) corner.Range { return corner.Range{Lo: low, Hi: high} }

// list returns the numbers as a list.
func list(numbers ...int) []int { return numbers }

// keeps returns a house that would not sell.
func keeps(low, high int) corner.House { return corner.House{Held: to(low, high)} }

// sells returns a house that would sell.
func sells(low, high, ask int) corner.House {
	return corner.House{Held: to(low, high), Sells: true, Ask: ask}
}

// of returns a market with these houses, and no contracts.
func of(exist int, houses ...corner.House) corner.Market {
	return corner.Market{Exist: exist, Houses: houses}
}

// owes returns a contract.
func owes(short, long, shares int) corner.Contract {
	return corner.Contract{Short: short, Long: long, Shares: shares}
}

// owing returns the market with these contracts, too.
func owing(m corner.Market, contracts ...corner.Contract) corner.Market {
	m.Contracts = slices.Concat(m.Contracts, contracts)
	return m
}

// sold returns a sale.
func sold(shares, from, into int) corner.Sale {
	return corner.Sale{From: from, To: into, Shares: shares}
}

// told returns the sales as a list.
func told(sales ...corner.Sale) []corner.Sale { return sales }

// holding returns the market of the chapter's examples, in which the house 0 holds
// from one number to another one.
func holding(low, high int) corner.Market {
	return owing(of(100, keeps(low, high), sells(10, 30, 200), sells(0, 15, 150), keeps(0, 5)), owes(3, 0, 25), owes(1, 0, 10))
}

// theExample is the market of the chapter's examples.
func theExample() corner.Market { return holding(60, 80) }

// theTruth is the one of the chapter's examples.
func theTruth() []int { return list(70, 20, 8, 2) }

// keen is the example if all houses would sell, the dearest ones for the most.
func keen() corner.Market {
	m := theExample()
	m.Houses[0].Sells, m.Houses[0].Ask = true, 1000
	m.Houses[3].Sells, m.Houses[3].Ask = true, 1000
	return m
}

// shut is the market if these houses would not sell.
func shut(m corner.Market, houses ...int) corner.Market {
	m.Houses = slices.Clone(m.Houses)
	for _, house := range houses {
		m.Houses[house].Sells = false
	}
	return m
}

// circle has contracts by which no house has to deliver anything in the end.
func circle() corner.Market {
	return owing(of(1, keeps(0, 1), keeps(0, 1), keeps(0, 0)), owes(0, 1, 50), owes(1, 2, 50), owes(2, 0, 50))
}

// pair has two houses of which each one has enough for a third one.
func pair() corner.Market {
	return owing(of(20, sells(10, 10, 5), sells(10, 10, 4), keeps(0, 0), keeps(0, 0)), owes(2, 3, 8))
}

// three has three houses that would sell 10 each, for a fourth one that lacks so
// many.
func three(lacks int) corner.Market {
	return owing(of(30, sells(10, 10, 7), sells(10, 10, 7), sells(10, 10, 7), keeps(0, 0), keeps(0, 0)), owes(3, 4, lacks))
}

func TestP11_1CheckMarket(t *testing.T) {
	for _, x := range append(validChanges(), wrongChanges()...) {
		m := theExample()
		x.change(&m)
		if e := corner.CheckMarket(m); e != x.e {
			t.Errorf("CheckMarket, %s: %v; want %v", x.name, e, x.e)
		}
	}
}

func TestP11_1Needs(t *testing.T) {
	for _, x := range []struct {
		name                string
		m                   corner.Market
		truth, needs, spare []int
	}{
		{"the example", theExample(), theTruth(), list(0, 0, 0, 23), list(0, 10, 8, 0)},
		{"just what is owed", theExample(), list(80, 10, 5, 5), list(0, 0, 0, 20), list(0, 0, 5, 0)},
		{"all would sell", keen(), theTruth(), list(0, 0, 0, 23), list(105, 10, 8, 0)},
		{"nobody would", shut(theExample(), 1, 2), theTruth(), list(0, 0, 0, 23), list(0, 0, 0, 0)},
		{"one house with all", of(7, sells(0, 200, 1)), list(7), list(0), list(7)},
		{"one house that keeps all", of(7, keeps(0, 200)), list(7), list(0), list(0)},
		{"round a circle", circle(), list(1, 0, 0), list(0, 0, 0), list(0, 0, 0)},
		{"what one would sell itself", owing(of(5, sells(5, 5, 1), keeps(0, 0)), owes(0, 1, 5)), list(5, 0), list(0, 0), list(0, 0)},
		{"one share more", owing(of(5, sells(5, 5, 1), keeps(0, 0)), owes(0, 1, 6)), list(5, 0), list(1, 0), list(0, 0)},
		{"one share less", owing(of(5, sells(5, 5, 1), keeps(0, 0)), owes(0, 1, 4)), list(5, 0), list(0, 0), list(1, 0)},
		{"what one is owed", owing(of(5, sells(0, 0, 1), keeps(5, 5)), owes(1, 0, 3)), list(0, 5), list(0, 0), list(3, 0)},
		{"several contracts of two houses", owing(of(5, sells(3, 3, 1), sells(2, 2, 1)), owes(0, 1, 4), owes(0, 1, 4), owes(1, 0, 3)), list(3, 2), list(2, 0), list(0, 7)},
		{"the most contracts", owing(of(1, keeps(0, 0), keeps(1, 1)), slices.Repeat([]corner.Contract{owes(0, 1, 200)}, 8)...), list(0, 1), list(1600, 0), list(0, 0)},
	} {
		needs, spare, e := corner.Needs(x.m, x.truth)
		if !slices.Equal(needs, x.needs) || !slices.Equal(spare, x.spare) || e != api.OK {
			t.Errorf("Needs, %s: %v, %v, %v; want %v, %v", x.name, needs, spare, e, x.needs, x.spare)
		}
		if !corner.ProveTruth(x.m, x.truth) {
			t.Errorf("ProveTruth, %s", x.name)
		}
	}
}

// wrongTruths are lists that are no truth of the example.
func wrongTruths() map[string][]int {
	return map[string][]int{
		"nothing":                      nil,
		"a number too few":             list(75, 20, 5),
		"one for a house that is not":  list(70, 20, 8, 2, 0),
		"a share too few":              list(70, 20, 8, 1),
		"a share too many":             list(70, 20, 8, 3),
		"below the range of a house":   list(59, 30, 8, 3),
		"above it":                     list(81, 10, 7, 2),
		"below that of another one":    list(80, 9, 8, 3),
		"below 0":                      list(80, 15, 6, -1),
		"above that of the last one":   list(70, 20, 4, 6),
		"far away, to the right sum":   list(farthest, lowest, 50, 51),
		"all far away, to 100 in bits": list(lowest, lowest, 50, 50),
	}
}

func TestP11_1ProveTruth(t *testing.T) {
	for _, truth := range [][]int{theTruth(), list(60, 30, 10, 0), list(80, 10, 5, 5), list(65, 20, 15, 0), list(80, 20, 0, 0)} {
		if !corner.ProveTruth(theExample(), truth) {
			t.Errorf("ProveTruth of %v", truth)
		}
	}
	for name, truth := range wrongTruths() {
		if corner.ProveTruth(theExample(), truth) {
			t.Errorf("ProveTruth, %s: %v", name, truth)
		}
	}
	for _, m := range []corner.Market{{}, of(1), holding(40, 41), of(201, keeps(200, 200), keeps(1, 1))} {
		if corner.ProveTruth(m, list(200, 1)) || corner.ProveTruth(m, nil) || corner.ProveTruth(m, theTruth()) {
			t.Errorf("ProveTruth of %v", m)
		}
	}
}

// asked is a market, and what is due of it.
type asked struct {
	name      string
	m         corner.Market
	shortage  corner.Range
	sure, may []int
	corner    []int
	e         api.Errno // of Corner
}

func allAsked() []asked {
	return []asked{
		{"the example", theExample(), to(-5, 15), list(1), list(1, 2), list(1), api.OK},
		{"surely cornered", holding(66, 80), to(1, 15), list(1, 2), list(1, 2), nil, api.OK},
		{"not cornered at the most", holding(60, 65), to(-5, 0), list(1), list(1, 2), list(1), api.OK},
		{"cornered by one share at the most", holding(60, 66), to(-5, 1), list(1), list(1, 2), list(1), api.OK},
		{"not cornered at the least", holding(65, 80), to(0, 15), list(1), list(1, 2), list(1), api.OK},
		{"all would sell", keen(), to(-100, -100), nil, list(0), list(0, 1), api.OK},
		{"nobody would", shut(theExample(), 1, 2), to(20, 25), nil, nil, nil, api.OK},
		{"nobody lacks anything", circle(), to(0, 0), nil, nil, nil, api.ErrNone},
		{"each of two has enough", pair(), to(-12, -12), nil, nil, list(0, 1), api.OK},
		{"any one of three is not enough", three(20), to(-10, -10), nil, nil, list(0, 1), api.OK},
		{"each of three is essential", three(21), to(-9, -9), list(0, 1, 2), list(0, 1, 2), list(0), api.OK},
		{"all three are a corner", three(10), to(-20, -20), nil, nil, list(0, 1, 2), api.OK},
		{"just enough", three(30), to(0, 0), list(0, 1, 2), list(0, 1, 2), list(0), api.OK},
		{"one share too few", three(31), to(1, 1), list(0, 1, 2), list(0, 1, 2), nil, api.OK},
		{"the second one has more", owing(of(30, sells(8, 8, 0), sells(14, 14, 0), sells(8, 8, 0), keeps(0, 0), keeps(0, 0)), owes(3, 4, 17)), to(-13, -13), list(1), list(1), list(1), api.OK},
		{"all that there is", of(200, sells(0, 200, 0)), to(-200, -200), nil, nil, nil, api.ErrNone},
		{"without contracts", of(9, sells(1, 5, 0), keeps(2, 6)), to(-5, -3), nil, nil, nil, api.ErrNone},
		{"no share at one end", owing(of(9, sells(0, 9, 0), keeps(0, 9)), owes(1, 0, 9)), to(-9, -9), nil, list(0), nil, api.ErrNone},
		{"what the house itself lacks", owing(of(9, sells(0, 3, 0), keeps(0, 9)), owes(0, 1, 4)), to(1, 4), list(0), list(0), nil, api.OK},
	}
}

func TestP11_2Shortage(t *testing.T) {
	for _, x := range allAsked() {
		if got, e := corner.Shortage(x.m); got != x.shortage || e != api.OK {
			t.Errorf("Shortage, %s: %v, %v; want %v", x.name, got, e, x.shortage)
		}
	}
}

// shortage returns the shortage of the truth, by Needs, which must have no error.
func shortage(t *testing.T, m corner.Market, truth []int) int {
	t.Helper()
	needs, spare, e := corner.Needs(m, truth)
	if e != api.OK || len(needs) != len(m.Houses) || len(spare) != len(m.Houses) {
		t.Fatalf("Needs of %v, %v: %v, %v, %v", m, truth, needs, spare, e)
	}
	return total(needs) - total(spare)
}

func TestP11_2Show(t *testing.T) {
	for _, x := range allAsked() {
		for high, want := range map[bool]int{false: x.shortage.Lo, true: x.shortage.Hi} {
			truth, e := corner.Show(x.m, high)
			if e != api.OK || !corner.ProveTruth(x.m, truth) || shortage(t, x.m, truth) != want {
				t.Errorf("Show of %s, %v: %v, %v; want one of %d", x.name, high, truth, e, want)
			}
		}
	}
}

func TestP11_3Cornered(t *testing.T) {
	for _, x := range allAsked() {
		sure, may, e := corner.Cornered(x.m)
		if sure != (x.shortage.Lo > 0) || may != (x.shortage.Hi > 0) || e != api.OK {
			t.Errorf("Cornered, %s: %v, %v, %v; want %v", x.name, sure, may, e, x.shortage)
		}
	}
}

func TestP11_4Essential(t *testing.T) {
	for _, x := range allAsked() {
		sure, may, e := corner.Essential(x.m)
		if !slices.Equal(sure, x.sure) || !slices.Equal(may, x.may) || e != api.OK {
			t.Errorf("Essential, %s: %v, %v, %v; want %v, %v", x.name, sure, may, e, x.sure, x.may)
		}
	}
}

func TestP11_4Corner(t *testing.T) {
	for _, x := range allAsked() {
		if got, e := corner.Corner(x.m); !slices.Equal(got, x.corner) || e != x.e {
			t.Errorf("Corner, %s: %v, %v; want %v, %v", x.name, got, e, x.corner, x.e)
		}
	}
}

// dear returns a market in which 5 and 3 shares are lacked, and three houses would
// sell, at these prices.
func dear(asks ...int) corner.Market {
	m := of(12, keeps(0, 0), sells(4, 4, asks[0]), sells(2, 2, asks[1]), keeps(0, 0), sells(6, 6, asks[2]), keeps(0, 0))
	return owing(m, owes(0, 5, 5), owes(3, 5, 3))
}

func TestP11_5Settle(t *testing.T) {
	twelve := list(0, 4, 2, 0, 6, 0)
	for _, x := range []struct {
		name  string
		m     corner.Market
		truth []int
		cost  int
	}{
		{"the example", theExample(), list(60, 30, 10, 0), 4500},
		{"another truth of it", theExample(), list(65, 20, 15, 0), 4250},
		{"more than is needed", theExample(), list(60, 25, 15, 0), 4250},
		{"a house that holds nothing sells what it is owed", keen(), theTruth(), 8*150 + 10*200 + 5*1000},
		{"nobody lacks anything", circle(), list(0, 1, 0), 0},
		{"the cheaper one", pair(), list(10, 10, 0, 0), 32},
		{"one house", of(3, keeps(3, 3)), list(3), 0},
		{"the cheapest one has enough", dear(5, 9, 0), twelve, 2 * 5},
		{"from the first to the last", dear(1, 2, 3), twelve, 4 + 4 + 2*3},
		{"from the last to the first", dear(1000, 999, 998), twelve, 6*998 + 2*999},
		{"the middle one first", dear(3, 1, 2), twelve, 2 + 6*2},
		{"all asks are the same", dear(7, 7, 7), twelve, 8 * 7},
		{"for nothing", dear(0, 0, 0), twelve, 0},
		{"for the most", owing(of(200, sells(200, 200, 1000), keeps(0, 0), keeps(0, 0)), owes(1, 2, 200)), list(200, 0, 0), 200000},
	} {
		l, cost, e := corner.Settle(x.m, x.truth)
		if cost != x.cost || e != api.OK || !isSettled(x.m, x.truth, l) || costOf(x.m, l) != cost {
			t.Errorf("Settle, %s: %v, %d, %v; want %d", x.name, l, cost, e, x.cost)
		}
		if !corner.ProveSettled(x.m, x.truth, l, cost) || corner.ProveSettled(x.m, x.truth, l, cost-1) {
			t.Errorf("ProveSettled, %s: %v, %d", x.name, l, cost)
		}
	}
}

// TestP11_5Short: there is no settlement in a truth in which the stock is cornered.
func TestP11_5Short(t *testing.T) {
	for _, x := range []struct {
		name  string
		m     corner.Market
		truth []int
	}{
		{"one share too few", theExample(), list(66, 20, 14, 0)},
		{"many too few", theExample(), list(80, 10, 5, 5)},
		{"nobody would sell", shut(theExample(), 1, 2), list(60, 30, 10, 0)},
		{"nobody has anything", owing(of(1, keeps(0, 0), keeps(1, 1)), owes(0, 1, 1)), list(0, 1)},
	} {
		if l, cost, e := corner.Settle(x.m, x.truth); l != nil || cost != 0 || e != api.ErrShort {
			t.Errorf("Settle, %s: %v, %d, %v", x.name, l, cost, e)
		}
		if corner.ProveSettled(x.m, x.truth, nil, farthest) {
			t.Errorf("ProveSettled, %s", x.name)
		}
	}
}

func TestP11_5ProveSettled(t *testing.T) {
	truth := list(60, 30, 10, 0)
	for _, x := range []struct {
		name string
		l    []corner.Sale
		cost int
		want bool
	}{
		{"the cheapest one", told(sold(10, 2, 3), sold(15, 1, 3)), 4500, true},
		{"in another order", told(sold(15, 1, 3), sold(10, 2, 3)), 4500, true},
		{"at a greater cost", told(sold(10, 2, 3), sold(15, 1, 3)), 4501, true},
		{"at a cost far away", told(sold(10, 2, 3), sold(15, 1, 3)), farthest, true},
		{"a dearer one", told(sold(5, 2, 3), sold(20, 1, 3)), 4750, true},
		{"a dearer one for less", told(sold(5, 2, 3), sold(20, 1, 3)), 4749, false},
		{"in more sales", told(sold(4, 2, 3), sold(15, 1, 3), sold(6, 2, 3)), 4500, true},
		{"at a lesser cost", told(sold(10, 2, 3), sold(15, 1, 3)), 4499, false},
		{"at a cost far below 0", told(sold(10, 2, 3), sold(15, 1, 3)), lowest, false},
		{"nothing", nil, farthest, false},
		{"a share too few", told(sold(10, 2, 3), sold(14, 1, 3)), farthest, false},
		{"a share too many", told(sold(10, 2, 3), sold(16, 1, 3)), farthest, false},
		{"a share too many, by itself", told(sold(10, 2, 3), sold(15, 1, 3), sold(1, 1, 3)), farthest, false},
		{"more than one would sell", told(sold(11, 2, 3), sold(14, 1, 3)), farthest, false},
		{"more than one has left", told(sold(4, 2, 3), sold(7, 2, 3), sold(14, 1, 3)), farthest, false},
		{"more than is left of what one has", told(sold(4, 2, 3), sold(21, 1, 3)), farthest, false},
		{"one that would not sell", told(sold(25, 0, 3)), farthest, false},
		{"to one without a need", told(sold(10, 2, 3), sold(15, 1, 3), sold(1, 1, 2)), farthest, false},
		{"to one without a need, of what it could pass on", told(sold(5, 1, 2), sold(15, 2, 3), sold(10, 1, 3)), farthest, false},
		{"to itself", told(sold(10, 2, 3), sold(15, 1, 3), sold(1, 1, 1)), farthest, false},
		{"to itself, that needs it", told(sold(10, 2, 3), sold(14, 1, 3), sold(1, 3, 3)), farthest, false},
		{"of no shares", told(sold(10, 2, 3), sold(15, 1, 3), sold(0, 1, 3)), farthest, false},
		{"of shares below 0", told(sold(10, 2, 3), sold(16, 1, 3), sold(-1, 1, 3)), farthest, false},
		{"taken back", told(sold(10, 2, 3), sold(15, 1, 3), sold(-1, 2, 3), sold(1, 2, 3)), farthest, false},
		{"of shares far away", told(sold(10, 2, 3), sold(farthest, 1, 3)), farthest, false},
		{"of shares far below 0", told(sold(10, 2, 3), sold(lowest, 1, 3)), farthest, false},
		{"to no such house", told(sold(10, 2, 3), sold(15, 1, 4)), farthest, false},
		{"to a house below 0", told(sold(10, 2, 3), sold(15, 1, -1)), farthest, false},
		{"to a house far away", told(sold(10, 2, 3), sold(15, 1, farthest)), farthest, false},
		{"from no such house", told(sold(10, 4, 3), sold(15, 1, 3)), farthest, false},
		{"from a house below 0", told(sold(10, -1, 3), sold(15, 1, 3)), farthest, false},
		{"from a house far below 0", told(sold(10, lowest, 3), sold(15, 1, 3)), farthest, false},
	} {
		if got := corner.ProveSettled(theExample(), truth, x.l, x.cost); got != x.want {
			t.Errorf("ProveSettled, %s: %v", x.name, got)
		}
		for name, truth := range wrongTruths() {
			if corner.ProveSettled(theExample(), truth, x.l, x.cost) {
				t.Errorf("ProveSettled, %s, in the truth of %s", x.name, name)
			}
		}
	}
	if !corner.ProveSettled(circle(), list(1, 0, 0), nil, 0) || corner.ProveSettled(circle(), list(1, 0, 0), nil, -1) {
		t.Errorf("ProveSettled of nothing")
	}
}

func TestP11_6Leave(t *testing.T) {
	for _, x := range []struct {
		name string
		m    corner.Market
		want []int
	}{
		{"the example", theExample(), nil},
		{"too few shares", holding(40, 41), list(0)},
		{"one share too few", holding(48, 49), list(0)},
		{"just enough", holding(49, 50), nil},
		{"as many as can be", holding(90, 95), nil},
		{"one share too many", holding(91, 95), list(0)},
		{"one that holds too many", of(5, keeps(1, 1), keeps(9, 9), keeps(0, 0)), list(1)},
		{"one that can hold more", of(5, keeps(0, 1), keeps(2, 2), keeps(1, 1)), list(0)},
		{"two that hold too many", of(5, keeps(3, 3), keeps(3, 3), keeps(3, 3)), list(0, 1)},
		{"the last two", of(5, keeps(1, 1), keeps(6, 6), keeps(6, 6)), list(1, 2)},
		{"the first and the last one", of(5, keeps(6, 6), keeps(1, 2), keeps(7, 7)), list(0, 2)},
		{"all", of(5, keeps(6, 6), keeps(8, 9), keeps(7, 200)), list(0, 1, 2)},
		{"the most", of(5, keeps(6, 6), keeps(6, 6), keeps(6, 6), keeps(6, 6), keeps(6, 6), keeps(6, 6)), list(0, 1, 2, 3, 4, 5)},
		{"one house that has all", of(5, keeps(5, 5)), nil},
		{"one house with too few", of(5, keeps(4, 4)), list(0)},
		{"one house with too many", of(5, keeps(6, 7)), list(0)},
		{"contracts change nothing", owing(of(5, keeps(4, 4), keeps(3, 3)), owes(0, 1, 2)), list(0)},
	} {
		if got, e := corner.Leave(x.m); !slices.Equal(got, x.want) || e != api.OK {
			t.Errorf("Leave, %s: %v, %v; want %v", x.name, got, e, x.want)
		}
	}
}

// TestP11Examples are the examples of the chapter, and that of the document.
func TestP11Examples(t *testing.T) {
	m := theExample()
	l, cost, e := corner.Settle(m, list(60, 30, 10, 0))
	slices.SortFunc(l, func(x, y corner.Sale) int { return x.Shares - y.Shares })
	if !slices.Equal(l, told(sold(10, 2, 3), sold(15, 1, 3))) || cost != 4500 || e != api.OK {
		t.Errorf("Settle: %v, %d, %v", l, cost, e)
	}
	l, cost, e = corner.Settle(m, list(65, 20, 15, 0))
	slices.SortFunc(l, func(x, y corner.Sale) int { return x.Shares - y.Shares })
	if !slices.Equal(l, told(sold(10, 1, 3), sold(15, 2, 3))) || cost != 4250 || e != api.OK {
		t.Errorf("Settle: %v, %d, %v", l, cost, e)
	}
	short := owing(of(24, sells(24, 24, 1), keeps(0, 0), keeps(0, 0)), owes(1, 2, 25))
	if sure, may, e := corner.Cornered(short); !sure || !may || e != api.OK {
		t.Errorf("25 to be delivered, 24 for sale: %v, %v, %v", sure, may, e)
	}
}
