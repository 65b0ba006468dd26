package corner_test

import (
	"math/rand"
	"reflect"
	"slices"
	"testing"

	"contango/api"
	"contango/corner"
)

// change is one of the market of the example, after which it has the error e.
type change struct {
	name   string
	change func(m *corner.Market)
	e      api.Errno
}

// validChanges are those after which the market is still valid.
func validChanges() []change {
	return []change{
		{"nothing", func(m *corner.Market) {}, api.OK},
		{"one house", func(m *corner.Market) { *m = of(5, keeps(5, 5)) }, api.OK},
		{"the most houses", func(m *corner.Market) { m.Houses = append(m.Houses, keeps(0, 0), keeps(0, 0)) }, api.OK},
		{"the most houses of nothing", func(m *corner.Market) { m.Houses, m.Contracts = make([]corner.House, 6), nil }, api.OK},
		{"no contracts", func(m *corner.Market) { m.Contracts = nil }, api.OK},
		{"the most contracts", func(m *corner.Market) { m.Contracts = slices.Repeat(m.Contracts, 4) }, api.OK},
		{"one share exists", func(m *corner.Market) { m.Exist = 1 }, api.OK},
		{"the most shares exist", func(m *corner.Market) { m.Exist = 200 }, api.OK},
		{"a house that holds nothing", func(m *corner.Market) { m.Houses[1].Held = to(0, 0) }, api.OK},
		{"the widest range", func(m *corner.Market) { m.Houses[0].Held = to(0, 200) }, api.OK},
		{"the greatest number", func(m *corner.Market) { m.Houses[3].Held = to(200, 200) }, api.OK},
		{"more than there are", func(m *corner.Market) { m.Houses[2].Held = to(0, 101) }, api.OK},
		{"the least ask", func(m *corner.Market) { m.Houses[1].Ask = 0 }, api.OK},
		{"the greatest ask", func(m *corner.Market) { m.Houses[1].Ask = 1000 }, api.OK},
		{"the ask of one that would not sell", func(m *corner.Market) { m.Houses[0].Ask = 1000 }, api.OK},
		{"one share owed", func(m *corner.Market) { m.Contracts[0].Shares = 1 }, api.OK},
		{"the most shares owed", func(m *corner.Market) { m.Contracts[1].Shares = 200 }, api.OK},
		{"a contract twice", func(m *corner.Market) { m.Contracts[1] = m.Contracts[0] }, api.OK},
		{"a contract in the other direction", func(m *corner.Market) { m.Contracts[0] = owes(0, 3, 25) }, api.OK},
	}
}

// tooMany are those after which it has more of something than there may be.
func tooMany() []change {
	return []change{
		{"too many houses", func(m *corner.Market) { m.Houses = slices.Repeat(theExample().Houses[:1], 7) }, api.ErrLimit},
		{"too many houses of nothing", func(m *corner.Market) { m.Houses = make([]corner.House, 7) }, api.ErrLimit},
		{"far too many houses", func(m *corner.Market) { m.Houses = make([]corner.House, 1<<16) }, api.ErrLimit},
		{"too many contracts", func(m *corner.Market) { m.Contracts = slices.Repeat(theExample().Contracts, 5)[:9] }, api.ErrLimit},
		{"too many contracts, not valid", func(m *corner.Market) { m.Contracts = make([]corner.Contract, 9) }, api.ErrLimit},
		{"far too many contracts", func(m *corner.Market) { m.Contracts = make([]corner.Contract, 1<<16) }, api.ErrLimit},
	}
}

// wrongHouses are those after which a house is not valid.
func wrongHouses() []change {
	return []change{
		{"a range that ends before it begins", func(m *corner.Market) { m.Houses[0].Held = to(2, 1) }, api.ErrArg},
		{"a number below 0", func(m *corner.Market) { m.Houses[1].Held = to(-1, 1) }, api.ErrArg},
		{"numbers below 0", func(m *corner.Market) { m.Houses[1].Held = to(-1, -1) }, api.ErrArg},
		{"a number too great", func(m *corner.Market) { m.Houses[2].Held = to(0, 201) }, api.ErrArg},
		{"numbers too great", func(m *corner.Market) { m.Houses[3].Held = to(201, 201) }, api.ErrArg},
		{"all numbers", func(m *corner.Market) { m.Houses[0].Held = to(lowest, farthest) }, api.ErrArg},
		{"numbers far away", func(m *corner.Market) { m.Houses[0].Held = to(farthest, farthest) }, api.ErrArg},
		{"an ask below 0", func(m *corner.Market) { m.Houses[1].Ask = -1 }, api.ErrArg},
		{"an ask far below 0", func(m *corner.Market) { m.Houses[1].Ask = lowest }, api.ErrArg},
		{"an ask too great", func(m *corner.Market) { m.Houses[2].Ask = 1001 }, api.ErrArg},
		{"an ask far too great", func(m *corner.Market) { m.Houses[2].Ask = farthest }, api.ErrArg},
		{"an ask too great of one that would not sell", func(m *corner.Market) { m.Houses[3].Ask = 1001 }, api.ErrArg},
		{"an ask below 0 of one that would not sell", func(m *corner.Market) { m.Houses[0].Ask = -1 }, api.ErrArg},
	}
}

// wrongChanges are all those after which the market is not valid.
func wrongChanges() []change {
	return slices.Concat(tooMany(), wrongHouses(), []change{
		{"no market", func(m *corner.Market) { *m = corner.Market{} }, api.ErrArg},
		{"no share exists", func(m *corner.Market) { m.Exist = 0 }, api.ErrArg},
		{"shares below 0 exist", func(m *corner.Market) { m.Exist = -1 }, api.ErrArg},
		{"shares far below 0 exist", func(m *corner.Market) { m.Exist = lowest }, api.ErrArg},
		{"a share too many exists", func(m *corner.Market) { m.Exist = 201 }, api.ErrArg},
		{"far too many shares exist", func(m *corner.Market) { m.Exist = farthest }, api.ErrArg},
		{"no houses", func(m *corner.Market) { m.Houses = nil }, api.ErrArg},
		{"no houses, and no contracts", func(m *corner.Market) { m.Houses, m.Contracts = nil, nil }, api.ErrArg},
		{"no such house is short", func(m *corner.Market) { m.Contracts[0].Short = 4 }, api.ErrArg},
		{"a house below 0 is short", func(m *corner.Market) { m.Contracts[0].Short = -1 }, api.ErrArg},
		{"a house far away is short", func(m *corner.Market) { m.Contracts[1].Short = farthest }, api.ErrArg},
		{"no such house is long", func(m *corner.Market) { m.Contracts[1].Long = 4 }, api.ErrArg},
		{"a house below 0 is long", func(m *corner.Market) { m.Contracts[1].Long = -1 }, api.ErrArg},
		{"a house far below 0 is long", func(m *corner.Market) { m.Contracts[0].Long = lowest }, api.ErrArg},
		{"a house owes itself", func(m *corner.Market) { m.Contracts[1].Long = 1 }, api.ErrArg},
		{"no shares are owed", func(m *corner.Market) { m.Contracts[0].Shares = 0 }, api.ErrArg},
		{"shares below 0 are owed", func(m *corner.Market) { m.Contracts[0].Shares = -1 }, api.ErrArg},
		{"a share too many is owed", func(m *corner.Market) { m.Contracts[1].Shares = 201 }, api.ErrArg},
		{"far too many shares are owed", func(m *corner.Market) { m.Contracts[1].Shares = farthest }, api.ErrArg},
		{"a contract of nothing", func(m *corner.Market) { m.Contracts = append(m.Contracts, corner.Contract{}) }, api.ErrArg},
		{"only one house", func(m *corner.Market) { m.Houses = m.Houses[:1] }, api.ErrArg},
	})
}

// result is what a call returned, and its error.
type result struct {
	call   string
	values []any
	e      api.Errno
}

// callAll calls every function that has a market, and an error.
func callAll(m corner.Market, truth []int) []result {
	needs, spare, e1 := corner.Needs(m, truth)
	x, e2 := corner.Shortage(m)
	low, e3 := corner.Show(m, false)
	high, e4 := corner.Show(m, true)
	sure, may, e5 := corner.Cornered(m)
	always, some, e6 := corner.Essential(m)
	l, e7 := corner.Corner(m)
	sales, cost, e8 := corner.Settle(m, truth)
	left, e9 := corner.Leave(m)
	return []result{
		{"CheckMarket", nil, corner.CheckMarket(m)},
		{"Needs", []any{needs, spare}, e1}, {"Shortage", []any{x}, e2}, {"Show low", []any{low}, e3}, {"Show high", []any{high}, e4},
		{"Cornered", []any{sure, may}, e5}, {"Essential", []any{always, some}, e6}, {"Corner", []any{l}, e7},
		{"Settle", []any{sales, cost}, e8}, {"Leave", []any{left}, e9},
	}
}

// isZero reports whether each result is the zero value of its type, or an empty list.
func (r result) isZero() bool {
	return !slices.ContainsFunc(r.values, func(x any) bool {
		v := reflect.ValueOf(x)
		if v.Kind() == reflect.Slice {
			return v.Len() > 0
		}
		return !v.IsZero()
	})
}

// TestR1Market: a market that is not valid has its error in each call, before those
// of all else; no other result; and no proof.
func TestR1Market(t *testing.T) {
	for _, x := range wrongChanges() {
		m := theExample()
		x.change(&m)
		for _, truth := range [][]int{theTruth(), nil, list(66, 20, 14, 0), make([]int, len(m.Houses))} {
			for _, got := range callAll(m, truth) {
				if got.e != x.e || !got.isZero() {
					t.Errorf("%s, %s: %v, %v; want %v", got.call, x.name, got.values, got.e, x.e)
				}
			}
			if corner.ProveTruth(m, truth) || corner.ProveSettled(m, truth, nil, farthest) || corner.ProveSettled(m, truth, told(sold(10, 2, 3), sold(13, 1, 3)), farthest) {
				t.Errorf("ProveTruth, ProveSettled, %s", x.name)
			}
		}
	}
}

// TestR1LimitFirst: too many of anything counts before all else that is wrong.
func TestR1LimitFirst(t *testing.T) {
	for _, x := range tooMany() {
		for _, y := range wrongChanges() {
			m := theExample()
			y.change(&m)
			x.change(&m)
			if e := corner.CheckMarket(m); e != api.ErrLimit {
				t.Errorf("CheckMarket, %s and %s: %v", y.name, x.name, e)
			}
		}
	}
}

// due are the errors of calls; of all others it is OK.
type due map[string]api.Errno

// with returns the errors, and these, too.
func (d due) with(e api.Errno, calls ...string) due {
	more := due{}
	for call, e := range d {
		more[call] = e
	}
	for _, call := range calls {
		more[call] = e
	}
	return more
}

// TestR1Order: what each call asks for beside a valid market, in the order of the
// table.
func TestR1Order(t *testing.T) {
	settled := list(60, 30, 10, 0)
	noTruth := due{}.with(api.ErrRange, "Needs", "Settle")
	short := due{"Settle": api.ErrShort}
	noCorner := due{"Corner": api.ErrNone}
	failed := due{}.with(api.ErrFail, "Shortage", "Show low", "Show high", "Cornered", "Essential", "Corner")
	for _, x := range []struct {
		name  string
		m     corner.Market
		truth []int
		want  due
	}{
		{"nothing", theExample(), settled, nil},
		{"just enough", theExample(), list(65, 20, 15, 0), nil},
		{"one share too few", theExample(), list(66, 20, 14, 0), short},
		{"no truth", theExample(), nil, noTruth},
		{"no truth, and cornered", shut(theExample(), 1, 2), list(66, 20, 14, 1), noTruth},
		{"no corner", circle(), list(0, 1, 0), noCorner},
		{"no corner, and no truth", circle(), list(0, 0, 0), noTruth.with(api.ErrNone, "Corner")},
		{"one house has all that is lacked", owing(of(9, sells(0, 9, 0), keeps(0, 9), keeps(0, 0)), owes(2, 0, 9)), list(0, 9, 0), nil},
		{"cornered, but a corner is empty", shut(theExample(), 1, 2), theTruth(), short},
		{"the holdings contradict each other", holding(40, 41), list(41, 30, 15, 5), failed.with(api.ErrRange, "Needs", "Settle")},
		{"so do they, by one share too many", holding(91, 95), list(91, 10, 0, 0), failed.with(api.ErrRange, "Needs", "Settle")},
		{"they do, and there would be no corner", of(1, keeps(2, 2)), list(1), failed.with(api.ErrRange, "Needs", "Settle")},
	} {
		for _, got := range callAll(x.m, x.truth) {
			if got.e != x.want[got.call] || got.e != api.OK && !got.isZero() {
				t.Errorf("%s, %s: %v, %v; want %v", got.call, x.name, got.values, got.e, x.want[got.call])
			}
		}
	}
}

func TestR1Truth(t *testing.T) {
	for name, truth := range wrongTruths() {
		for _, m := range []corner.Market{theExample(), shut(theExample(), 1, 2)} {
			needs, spare, e := corner.Needs(m, truth)
			l, cost, f := corner.Settle(m, truth)
			if needs != nil || spare != nil || l != nil || cost != 0 || e != api.ErrRange || f != api.ErrRange {
				t.Errorf("%s: Needs: %v, %v, %v; Settle: %v, %d, %v", name, needs, spare, e, l, cost, f)
			}
		}
	}
}

// TestR3Empty: nil and a list without elements are the same.
func TestR3Empty(t *testing.T) {
	for _, contracts := range [][]corner.Contract{nil, {}} {
		m := theExample()
		m.Contracts = contracts
		for _, got := range callAll(m, theTruth()) {
			if want := map[string]api.Errno{"Corner": api.ErrNone}[got.call]; got.e != want {
				t.Errorf("%s without contracts: %v, %v", got.call, got.values, got.e)
			}
		}
		for _, l := range [][]corner.Sale{nil, {}} {
			if !corner.ProveSettled(m, theTruth(), l, 0) || corner.ProveSettled(theExample(), theTruth(), l, farthest) {
				t.Errorf("ProveSettled of no sales")
			}
		}
	}
	for _, houses := range [][]corner.House{nil, {}} {
		if e := corner.CheckMarket(of(1, houses...)); e != api.ErrArg {
			t.Errorf("CheckMarket of no houses: %v", e)
		}
	}
	for _, truth := range [][]int{nil, {}} {
		if _, _, e := corner.Needs(theExample(), truth); e != api.ErrRange || corner.ProveTruth(theExample(), truth) {
			t.Errorf("Needs of an empty truth: %v", e)
		}
	}
}

// spoil writes to all memory of the lists that a result has, and beyond their ends.
func (r result) spoil() {
	for _, x := range r.values {
		switch l := x.(type) {
		case []int:
			for i := range l[:cap(l)] {
				l[:cap(l)][i] = -7
			}
		case []corner.Sale:
			for i := range l[:cap(l)] {
				l[:cap(l)][i] = sold(-7, -7, -7)
			}
		}
	}
}

// TestR4Memory: arguments are not written to, results share no memory.
func TestR4Memory(t *testing.T) {
	r := rand.New(rand.NewSource(4))
	for range 300 {
		m := pick(r, smallMarket, askew)(r)
		truth := make([]int, len(m.Houses))
		if all := allTruths(m); len(all) > 0 {
			truth = pick(r, all...)
		}
		mine, with := clone(m), slices.Clone(truth)
		kept, again := callAll(mine, with), callAll(mine, with)
		for i, x := range again {
			if !reflect.DeepEqual(x, kept[i]) {
				t.Fatalf("%s of %v, %v: %v has become %v", x.call, m, truth, kept[i].values, x.values)
			}
			x.spoil()
			if !reflect.DeepEqual(mine, m) || !slices.Equal(with, truth) || !reflect.DeepEqual(kept, callAll(mine, with)) {
				t.Fatalf("%s: %v, %v has become %v, %v", x.call, m, truth, mine, with)
			}
		}
		l, cost, _ := corner.Settle(mine, with)
		sales := slices.Clone(l)
		corner.ProveTruth(mine, with)
		corner.ProveSettled(mine, with, sales, cost)
		if !reflect.DeepEqual(mine, m) || !slices.Equal(with, truth) || !slices.Equal(sales, l) {
			t.Fatalf("ProveTruth, ProveSettled: %v, %v, %v has become %v, %v, %v", m, truth, l, mine, with, sales)
		}
	}
}

// TestR4Spare: memory beyond the ends of lists is not written to.
func TestR4Spare(t *testing.T) {
	m, truth := theExample(), append(make([]int, 0, 9), 60, 30, 10, 0)
	sales := append(make([]corner.Sale, 0, 9), sold(10, 2, 3), sold(15, 1, 3))
	m.Houses = append(make([]corner.House, 0, 9), m.Houses...)
	m.Contracts = append(make([]corner.Contract, 0, 9), m.Contracts...)
	for _, x := range callAll(m, truth) {
		x.spoil()
	}
	if !corner.ProveTruth(m, truth) || !corner.ProveSettled(m, truth, sales, 4500) {
		t.Errorf("ProveTruth, ProveSettled of %v, %v", truth, sales)
	}
	isClean := reflect.DeepEqual(m, theExample()) && slices.Equal(truth, list(60, 30, 10, 0))
	for i := 4; i < 9; i++ {
		isClean = isClean && m.Houses[:9][i] == corner.House{} && truth[:9][i] == 0
		isClean = isClean && m.Contracts[:9][i] == corner.Contract{} && sales[:9][i] == corner.Sale{}
	}
	if !isClean {
		t.Errorf("%v, %v and %v: written to", m, truth, sales)
	}
}

// anyNumber returns numbers within limits, near them, and far away.
func anyNumber(r *rand.Rand) int {
	return pick(r, 0, 1, 1, 1, 2, 2, 3, 5, 10, 199, 200, 201, 1000, 1001, -1, farthest, lowest, r.Int(), -r.Int())
}

// anyMarket returns a market that is often not valid.
func anyMarket(r *rand.Rand) corner.Market {
	m := clone(pick(r, smallMarket(r), askew(r), theExample(), theExample(), corner.Market{}))
	if len(m.Houses) == 0 {
		return m
	}
	h := &m.Houses[r.Intn(len(m.Houses))]
	switch r.Intn(12) {
	case 0:
		m.Exist = anyNumber(r)
	case 1:
		h.Held = to(anyNumber(r), anyNumber(r))
	case 2:
		h.Ask = anyNumber(r)
	case 3:
		m.Houses = slices.Repeat(m.Houses, r.Intn(4))
	case 4:
		m.Contracts = slices.Repeat(m.Contracts, r.Intn(4))
	case 5:
		m.Contracts = append(m.Contracts, owes(anyNumber(r), anyNumber(r), anyNumber(r)))
	case 6:
		m.Contracts = append(m.Contracts, owes(r.Intn(4), r.Intn(4), r.Intn(4)))
	}
	return m
}

// anyTruth returns a list that often is no truth.
func anyTruth(r *rand.Rand, m corner.Market) []int {
	truth, e := corner.Show(m, r.Intn(2) == 0)
	if e != api.OK {
		truth = theTruth()
	}
	switch r.Intn(6) {
	case 0:
		truth[r.Intn(len(truth))] = anyNumber(r)
	case 1:
		truth = append(truth, anyNumber(r))
	}
	return truth
}

// TestP1Returns: no call panics, and each has no result with its error, whatever
// its arguments are.
func TestP1Returns(t *testing.T) {
	r := rand.New(rand.NewSource(1))
	is, settled := map[api.Errno]int{}, map[api.Errno]int{}
	for range 5000 {
		m := anyMarket(r)
		truth := anyTruth(r, m)
		e := corner.CheckMarket(m)
		is[e]++
		for _, x := range callAll(m, truth) {
			if x.e != api.OK && !x.isZero() || e != api.OK && x.e != e {
				t.Fatalf("%s of %v, %v: %v, %v", x.call, m, truth, x.values, x.e)
			}
		}
		sales, _, f := corner.Settle(m, truth)
		settled[f]++
		for range pick(r, 0, 0, 1, 2) {
			sales = append(sales, sold(anyNumber(r), anyNumber(r), anyNumber(r)))
		}
		if corner.ProveSettled(m, truth, sales, anyNumber(r)) && f != api.OK || corner.ProveTruth(m, truth) && e != api.OK {
			t.Fatalf("ProveSettled, ProveTruth of %v, %v, %v", m, truth, sales)
		}
	}
	if is[api.OK] < 2000 || is[api.ErrArg] < 800 || is[api.ErrLimit] < 100 {
		t.Errorf("errors: %v", is)
	}
	if settled[api.OK] < 500 || settled[api.ErrShort] < 300 || settled[api.ErrRange] < 300 {
		t.Errorf("errors of Settle: %v", settled)
	}
}

// TestP1Widest: as much as there may be of everything.
func TestP1Widest(t *testing.T) {
	m := of(200, slices.Repeat([]corner.House{sells(0, 200, 1000)}, 6)...)
	m = owing(m, slices.Repeat([]corner.Contract{owes(5, 0, 200)}, 8)...)
	if got, e := corner.Shortage(m); got != to(-200, -200) || e != api.OK {
		t.Errorf("Shortage: %v, %v", got, e)
	}
	// The house 0 has 1600 more than it holds, which the house 5 lacks.
	if sure, may, e := corner.Essential(m); !slices.Equal(sure, list(0)) || !slices.Equal(may, list(0)) || e != api.OK {
		t.Errorf("Essential: %v, %v, %v", sure, may, e)
	}
	if got, e := corner.Corner(m); !slices.Equal(got, list(0)) || e != api.OK {
		t.Errorf("Corner: %v, %v", got, e)
	}
	if l, cost, e := corner.Settle(m, list(0, 200, 0, 0, 0, 0)); cost != 1600000 || e != api.OK || !corner.ProveSettled(m, list(0, 200, 0, 0, 0, 0), l, cost) {
		t.Errorf("Settle: %v, %d, %v", l, cost, e)
	}
	m.Contracts = nil
	if got, e := corner.Corner(m); got != nil || e != api.ErrNone {
		t.Errorf("Corner without contracts: %v, %v", got, e)
	}
	for i := range m.Houses {
		m.Houses[i].Held = to(200, 200)
	}
	if got, e := corner.Leave(m); !slices.Equal(got, list(0, 1, 2, 3, 4)) || e != api.OK {
		t.Errorf("Leave: %v, %v", got, e)
	}
}
