package coupon_test

import (
	"math/rand"
	"reflect"
	"slices"
	"testing"

	"contango/api"
	"contango/coupon"
)

// change is one of the company of the example, after which it has the error e.
type change struct {
	name   string
	change func(c *coupon.Company)
	e      api.Errno
}

// validChanges are those after which the company is still valid.
func validChanges() []change {
	return []change{
		{"nothing", func(c *coupon.Company) {}, api.OK},
		{"most houses", func(c *coupon.Company) { c.Houses, c.Held = 4, list(10, 0, 0, 0) }, api.OK},
		{"one house", func(c *coupon.Company) { c.Houses, c.Held, c.Trades = 1, list(10), nil }, api.OK},
		{"no shares, and most", func(c *coupon.Company) { c.Held = list(0, 100) }, api.OK},
		{"no trades", func(c *coupon.Company) { c.Trades = nil }, api.OK},
		{"most trades", func(c *coupon.Company) {
			x := c.Trades[0]
			c.Trades = []coupon.Trade{x, x, x, x}
		}, api.OK},
		{"no dividends", func(c *coupon.Company) { c.Dividends = nil }, api.OK},
		{"most dividends, on the first day", func(c *coupon.Company) { c.Dividends = make([]coupon.Dividend, 3) }, api.OK},
		{"no splits", func(c *coupon.Company) { c.Splits = nil }, api.OK},
		{"most splits", func(c *coupon.Company) { c.Splits = append(c.Splits, coupon.Split{Day: 5, Num: 6, Den: 4}) }, api.OK},
		{"splits on the first and the last day", func(c *coupon.Company) { c.Splits = []coupon.Split{{0, 1, 1}, {11, 1, 1}} }, api.OK},
		{"never closed", func(c *coupon.Company) { c.Closed = nil }, api.OK},
		{"always closed, twice", func(c *coupon.Company) { c.Closed = spans(0, 11, 0, 11) }, api.OK},
		{"closed earlier after later", func(c *coupon.Company) { c.Closed = spans(9, 9, 2, 4) }, api.OK},
		{"fewest shares", func(c *coupon.Company) { c.Trades[0].Shares = 1 }, api.OK},
		{"most shares", func(c *coupon.Company) { c.Trades[0].Shares = 100 }, api.OK},
		{"sold on three days", func(c *coupon.Company) { c.Trades[0].Sold = to(0, 2) }, api.OK},
		{"delivered on three days", func(c *coupon.Company) { c.Trades[0].Delivered = to(9, 11) }, api.OK},
		{"delivered before the sale", func(c *coupon.Company) { c.Trades[0].Delivered = to(0, 1) }, api.OK},
		{"most pence", func(c *coupon.Company) { c.Dividends[0].Pence = 50 }, api.OK},
		{"no pence", func(c *coupon.Company) { c.Dividends[0].Pence = 0 }, api.OK},
		{"Ex is Record", func(c *coupon.Company) { c.Dividends[0].Ex = 4 }, api.OK},
		{"Ex on the first day, Record on the last one", func(c *coupon.Company) { c.Dividends[0] = coupon.Dividend{Ex: 0, Record: 11} }, api.OK},
		{"Record after the last day of trades", func(c *coupon.Company) { c.Dividends[0].Record = 9 }, api.OK},
		{"the same dividend twice", func(c *coupon.Company) { c.Dividends = append(c.Dividends, c.Dividends[0]) }, api.OK},
	}
}

// tooMany are those after which it has more of something than there may be.
func tooMany() []change {
	return []change{
		{"too many houses", func(c *coupon.Company) { c.Houses, c.Held = 5, make([]int, 5) }, api.ErrLimit},
		{"far too many houses", func(c *coupon.Company) { c.Houses = 1<<63 - 1 }, api.ErrLimit},
		{"too many trades", func(c *coupon.Company) { c.Trades = make([]coupon.Trade, 5) }, api.ErrLimit},
		{"too many dividends", func(c *coupon.Company) { c.Dividends = make([]coupon.Dividend, 4) }, api.ErrLimit},
		{"too many splits", func(c *coupon.Company) { c.Splits = make([]coupon.Split, 3) }, api.ErrLimit},
		{"too many closed ranges", func(c *coupon.Company) { c.Closed = make([]coupon.Range, 3) }, api.ErrLimit},
	}
}

// wrongTrades are those after which a trade is not valid.
func wrongTrades() []change {
	return []change{
		{"no such seller", func(c *coupon.Company) { c.Trades[0].Seller = 2 }, api.ErrArg},
		{"a seller below 0", func(c *coupon.Company) { c.Trades[0].Seller = -1 }, api.ErrArg},
		{"no such buyer", func(c *coupon.Company) { c.Trades[0].Buyer = 2 }, api.ErrArg},
		{"a buyer below 0", func(c *coupon.Company) { c.Trades[0].Buyer = -1 << 63 }, api.ErrArg},
		{"one house", func(c *coupon.Company) { c.Trades[0].Buyer = 0 }, api.ErrArg},
		{"no shares", func(c *coupon.Company) { c.Trades[0].Shares = 0 }, api.ErrArg},
		{"shares below 0", func(c *coupon.Company) { c.Trades[0].Shares = -4 }, api.ErrArg},
		{"too many shares", func(c *coupon.Company) { c.Trades[0].Shares = 101 }, api.ErrArg},
		{"days of sale that end before they begin", func(c *coupon.Company) { c.Trades[0].Sold = to(3, 2) }, api.ErrArg},
		{"four days of sale", func(c *coupon.Company) { c.Trades[0].Sold = to(0, 3) }, api.ErrArg},
		{"a day of sale below 0", func(c *coupon.Company) { c.Trades[0].Sold = to(-1, 1) }, api.ErrArg},
		{"a day of sale after the last one", func(c *coupon.Company) { c.Trades[0].Sold = to(11, 12) }, api.ErrArg},
		{"all days of sale that there are", func(c *coupon.Company) { c.Trades[0].Sold = to(-1<<63, 1<<63-1) }, api.ErrArg},
		{"days of delivery that end before they begin", func(c *coupon.Company) { c.Trades[0].Delivered = to(5, 4) }, api.ErrArg},
		{"four days of delivery", func(c *coupon.Company) { c.Trades[0].Delivered = to(4, 7) }, api.ErrArg},
		{"a day of delivery below 0", func(c *coupon.Company) { c.Trades[0].Delivered = to(-1, 1) }, api.ErrArg},
		{"a day of delivery after the last one", func(c *coupon.Company) { c.Trades[0].Delivered = to(12, 12) }, api.ErrArg},
		{"a second trade", func(c *coupon.Company) { c.Trades = append(c.Trades, on(0, 2, 1, 1, 1)) }, api.ErrArg},
	}
}

// wrongChanges are those after which it is not valid.
func wrongChanges() []change {
	return slices.Concat(tooMany(), wrongTrades(), []change{
		{"no houses", func(c *coupon.Company) { c.Houses, c.Held, c.Trades = 0, nil, nil }, api.ErrArg},
		{"houses below 0", func(c *coupon.Company) { c.Houses = -1 << 63 }, api.ErrArg},
		{"a house without shares", func(c *coupon.Company) { c.Houses = 3 }, api.ErrArg},
		{"shares without a house", func(c *coupon.Company) { c.Held = list(10, 0, 0) }, api.ErrArg},
		{"shares without houses, far too many", func(c *coupon.Company) { c.Held = make([]int, 9) }, api.ErrArg},
		{"no shares at first", func(c *coupon.Company) { c.Held = nil }, api.ErrArg},
		{"shares below 0 at first", func(c *coupon.Company) { c.Held[1] = -1 }, api.ErrArg},
		{"too many shares at first", func(c *coupon.Company) { c.Held[0] = 101 }, api.ErrArg},
		{"Ex after Record", func(c *coupon.Company) { c.Dividends[0].Ex = 5 }, api.ErrArg},
		{"Ex below 0", func(c *coupon.Company) { c.Dividends[0].Ex = -1 }, api.ErrArg},
		{"Record after the last day", func(c *coupon.Company) { c.Dividends[0].Record = 12 }, api.ErrArg},
		{"Ex and Record after the last day", func(c *coupon.Company) { c.Dividends[0] = coupon.Dividend{Ex: 12, Record: 12} }, api.ErrArg},
		{"Ex and Record below 0", func(c *coupon.Company) { c.Dividends[0] = coupon.Dividend{Ex: -1, Record: -1} }, api.ErrArg},
		{"pence below 0", func(c *coupon.Company) { c.Dividends[0].Pence = -1 }, api.ErrArg},
		{"too many pence", func(c *coupon.Company) { c.Dividends[0].Pence = 51 }, api.ErrArg},
		{"a second dividend", func(c *coupon.Company) { c.Dividends = append(c.Dividends, coupon.Dividend{Ex: 2, Record: 1}) }, api.ErrArg},
		{"of no shares one is made", func(c *coupon.Company) { c.Splits[0].Den = 0 }, api.ErrArg},
		{"Den below 0", func(c *coupon.Company) { c.Splits[0].Den = -1 }, api.ErrArg},
		{"Den of 5", func(c *coupon.Company) { c.Splits[0].Den = 5 }, api.ErrArg},
		{"no share is made", func(c *coupon.Company) { c.Splits[0].Num = 0 }, api.ErrArg},
		{"Num below 0", func(c *coupon.Company) { c.Splits[0].Num = -1 }, api.ErrArg},
		{"Num of 7", func(c *coupon.Company) { c.Splits[0].Num = 7 }, api.ErrArg},
		{"a split below 0", func(c *coupon.Company) { c.Splits[0].Day = -1 }, api.ErrArg},
		{"a split after the last day", func(c *coupon.Company) { c.Splits[0].Day = 12 }, api.ErrArg},
		{"two splits on a day", func(c *coupon.Company) { c.Splits = append(c.Splits, coupon.Split{Day: 4, Num: 1, Den: 1}) }, api.ErrArg},
		{"an earlier split", func(c *coupon.Company) { c.Splits = append(c.Splits, coupon.Split{Day: 3, Num: 1, Den: 1}) }, api.ErrArg},
		{"a second split", func(c *coupon.Company) { c.Splits = append(c.Splits, coupon.Split{Day: 6, Num: 1, Den: 5}) }, api.ErrArg},
		{"closed days that end before they begin", func(c *coupon.Company) { c.Closed[0] = to(6, 5) }, api.ErrArg},
		{"a closed day below 0", func(c *coupon.Company) { c.Closed[0] = to(-1, 5) }, api.ErrArg},
		{"a closed day after the last one", func(c *coupon.Company) { c.Closed = spans(5, 6, 11, 12) }, api.ErrArg},
		{"closed on all days that there are", func(c *coupon.Company) { c.Closed[0] = to(-1<<63, 1<<63-1) }, api.ErrArg},
	})
}

// args are all that a call can have beside the company.
type args struct {
	t             coupon.Truth
	day, dividend int
}

// rightArgs have no error, if the company has none.
func rightArgs() args { return args{t: when(2, 4)} }

// result is what a call returned, and its error.
type result struct {
	call   string
	values []any
	e      api.Errno
}

// callAll calls every function that has an error.
func callAll(c coupon.Company, a args) []result {
	day, e1 := coupon.Registered(c, a.day)
	shares, units, e2 := coupon.Whole(c, a.t, a.day)
	paid, e3 := coupon.Paid(c, a.t, a.dividend)
	claims, e4 := coupon.Claims(c, a.t, a.dividend)
	rights, e5 := coupon.Rights(c, a.t, a.dividend)
	x, y, z, e6 := coupon.Bounds(c, a.dividend)
	leave, e7 := coupon.Leave(c)
	return []result{
		{"CheckCompany", nil, coupon.CheckCompany(c)},
		{"Registered", []any{day}, e1}, {"Whole", []any{shares, units}, e2}, {"Paid", []any{paid}, e3},
		{"Claims", []any{claims}, e4}, {"Rights", []any{rights}, e5}, {"Bounds", []any{x, y, z}, e6}, {"Leave", []any{leave}, e7},
	}
}

// isZero reports whether each result is the zero value of its type, or an empty list.
func (r result) isZero() bool {
	return !slices.ContainsFunc(r.values, func(x any) bool {
		v := reflect.ValueOf(x)
		return !v.IsZero() && !(v.Kind() == reflect.Slice && v.Len() == 0)
	})
}

// TestR1Company: a company that is not valid has its error in each call, before
// those of all else; no other result; and no proof.
func TestR1Company(t *testing.T) {
	for _, x := range wrongChanges() {
		c := theExample(4)
		x.change(&c)
		for _, a := range []args{rightArgs(), {t: when(9, 9, 9, 9), day: 99, dividend: 9}, {t: when(), day: -1, dividend: -1}} {
			for _, got := range callAll(c, a) {
				if got.e != x.e || !got.isZero() {
					t.Errorf("%s, %s: %v, %v; want %v", got.call, x.name, got.values, got.e, x.e)
				}
			}
			if coupon.ProveTruth(c, a.t) {
				t.Errorf("ProveTruth of %v, %s", a.t, x.name)
			}
		}
	}
}

// TestR1LimitFirst: too many of anything counts before all else that is wrong.
func TestR1LimitFirst(t *testing.T) {
	for _, x := range tooMany() {
		for _, y := range wrongChanges() {
			c := theExample(4)
			y.change(&c)
			x.change(&c)
			if e := coupon.CheckCompany(c); e != api.ErrLimit {
				t.Errorf("CheckCompany, %s and %s: %v", y.name, x.name, e)
			}
		}
	}
}

// TestR1Order: of several errors the one counts that is first in the table.
func TestR1Order(t *testing.T) {
	type due map[string]api.Errno
	each := func(e api.Errno, calls ...string) due {
		d := due{}
		for _, call := range calls {
			d[call] = e
		}
		return d
	}
	with := func(dues ...due) due {
		d := due{}
		for _, x := range dues {
			for call, e := range x {
				d[call] = e
			}
		}
		return d
	}
	truths := []string{"Whole", "Paid", "Claims", "Rights"}
	noDay := each(api.ErrRange, "Registered", "Whole")
	noDividend := each(api.ErrRange, "Paid", "Claims", "Rights", "Bounds")
	noSuchTruth, noTruth := each(api.ErrRange, truths...), each(api.ErrFalse, truths...)
	failed := each(api.ErrFail, "Bounds")
	for _, x := range []struct {
		name   string
		shares int
		a      args
		want   due
	}{
		{"nothing", 4, rightArgs(), due{}},
		{"the last day", 4, args{t: when(2, 4), day: 11}, due{}},
		{"no such day", 4, args{t: when(2, 4), day: 12}, noDay},
		{"a day below 0", 4, args{t: when(2, 4), day: -1}, noDay},
		{"a day far away", 4, args{t: when(2, 4), day: 1<<63 - 1}, noDay},
		{"no such dividend", 4, args{t: when(2, 4), dividend: 1}, noDividend},
		{"a dividend below 0", 4, args{t: when(2, 4), dividend: -1}, noDividend},
		{"a dividend far away", 4, args{t: when(2, 4), dividend: 1<<63 - 1}, noDividend},
		{"no days", 4, args{}, noSuchTruth},
		{"no days of delivery", 4, args{t: coupon.Truth{Sold: list(2)}}, noSuchTruth},
		{"no days of sale", 4, args{t: coupon.Truth{Delivered: list(4)}}, noSuchTruth},
		{"a day of sale too many", 4, args{t: coupon.Truth{Sold: list(2, 2), Delivered: list(4)}}, noSuchTruth},
		{"a day of delivery too many", 4, args{t: coupon.Truth{Sold: list(2), Delivered: list(4, 4)}}, noSuchTruth},
		{"a day of sale that it does not have", 4, args{t: when(1, 4)}, noSuchTruth},
		{"a day of delivery that it does not have", 4, args{t: when(2, 6)}, noSuchTruth},
		{"days far away", 4, args{t: when(-1<<63, 1<<63-1)}, noSuchTruth},
		{"too many shares", 11, args{t: when(2, 4)}, with(noTruth, failed)},
		{"too many shares, and no such days", 11, args{t: when(1, 4)}, with(noSuchTruth, failed)},
		{"too many shares, and no such day", 11, args{t: when(2, 4), day: 12}, with(noDay, noTruth, failed)},
		{"too many shares, and no such dividend", 11, args{t: when(2, 4), dividend: 1}, with(noDividend, noTruth)},
		{"too many shares, and all else", 11, args{t: when(1, 4), day: 12, dividend: 1}, with(noDay, noDividend, noSuchTruth)},
		{"all but the company", 4, args{day: 12, dividend: 1}, with(noDay, noDividend, noSuchTruth)},
	} {
		for _, got := range callAll(theExample(x.shares), x.a) {
			if got.e != x.want[got.call] || got.e != api.OK && !got.isZero() {
				t.Errorf("%s, %s: %v, %v; want %v", got.call, x.name, got.values, got.e, x.want[got.call])
			}
		}
	}
}

// TestR1SaleFirst: days of a trade that is delivered before it is sold are not in
// order, whatever the trade's days are, and this counts before all truths.
func TestR1SaleFirst(t *testing.T) {
	c := company(list(0, 0), trade(0, 1, 1, to(2, 4), to(2, 4)))
	for _, x := range []struct {
		t coupon.Truth
		e api.Errno
	}{{when(3, 2), api.ErrRange}, {when(4, 2), api.ErrRange}, {when(3, 3), api.ErrFalse}, {when(2, 3), api.ErrFalse}} {
		for _, got := range callAll(c, args{t: x.t})[2:6] {
			if got.e != x.e || !got.isZero() {
				t.Errorf("%s of %v: %v, %v; want %v", got.call, x.t, got.values, got.e, x.e)
			}
		}
	}
}

// TestR3Empty: nil and a list without elements are the same.
func TestR3Empty(t *testing.T) {
	bare := coupon.Company{Houses: 2, Held: list(3, 0), Dividends: []coupon.Dividend{{Ex: 3, Record: 5, Pence: 1}}}
	want := callAll(bare, args{})
	full := bare
	full.Trades, full.Splits, full.Closed = []coupon.Trade{}, []coupon.Split{}, []coupon.Range{}
	for _, c := range []coupon.Company{bare, full} {
		for _, days := range [][]int{nil, {}} {
			truth := coupon.Truth{Sold: days, Delivered: days}
			if got := callAll(c, args{t: truth}); !coupon.ProveTruth(c, truth) || !isSame(got, want) {
				t.Errorf("a company without trades: %v; want %v", got, want)
			}
		}
	}
	for _, x := range want {
		if x.e != api.OK {
			t.Errorf("%s of a company without trades: %v", x.call, x.e)
		}
	}
	full.Dividends, full.Held = []coupon.Dividend{}, []int{}
	if e := coupon.CheckCompany(full); e != api.ErrArg {
		t.Errorf("CheckCompany without shares: %v", e)
	}
}

// isSame reports whether both are the same, but for nil and empty lists.
func isSame(a, b []result) bool {
	same := func(x, y any) bool {
		v, w := reflect.ValueOf(x), reflect.ValueOf(y)
		isEmpty := v.Kind() == reflect.Slice && v.Len() == 0 && w.Len() == 0
		return isEmpty || reflect.DeepEqual(x, y)
	}
	return slices.EqualFunc(a, b, func(x, y result) bool {
		return x.call == y.call && x.e == y.e && slices.EqualFunc(x.values, y.values, same)
	})
}

// copyOf returns the company in memory of its own.
func copyOf(c coupon.Company) coupon.Company {
	c.Held, c.Trades, c.Dividends = slices.Clone(c.Held), slices.Clone(c.Trades), slices.Clone(c.Dividends)
	c.Splits, c.Closed = slices.Clone(c.Splits), slices.Clone(c.Closed)
	return c
}

// copyOfTruth returns the truth in memory of its own.
func copyOfTruth(t coupon.Truth) coupon.Truth {
	return coupon.Truth{Sold: slices.Clone(t.Sold), Delivered: slices.Clone(t.Delivered)}
}

// fill writes to all memory of a list, and beyond its end.
func fill(x any) {
	switch l := x.(type) {
	case []int:
		l = l[:cap(l)]
		for i := range l {
			l[i] = -7
		}
	case []coupon.Range:
		l = l[:cap(l)]
		for i := range l {
			l[i] = to(-7, -7)
		}
	}
}

// TestR4Memory: arguments are not written to, results share no memory.
func TestR4Memory(t *testing.T) {
	for _, s := range trueSamples(300) {
		c, truth := copyOf(s.c), copyOfTruth(s.truths[0])
		a := args{t: truth, day: 4}
		kept, again := callAll(c, a), callAll(c, a)
		for i, x := range again {
			for n := range x.values {
				fill(x.values[n])
				for m := n + 1; m < len(x.values); m++ {
					if !reflect.DeepEqual(x.values[m], kept[i].values[m]) {
						t.Fatalf("%s of %v: the result %d has become %v with the result %d", x.call, c, m, x.values[m], n)
					}
				}
			}
			if !reflect.DeepEqual(kept, callAll(c, a)) || !reflect.DeepEqual(c, s.c) || !reflect.DeepEqual(truth, s.truths[0]) {
				t.Fatalf("%s: %v, %v has become %v, %v", x.call, s.c, s.truths[0], c, truth)
			}
		}
	}
}

// anyNumber returns numbers within limits, near them, and far away.
func anyNumber(r *rand.Rand) int {
	return pick(r, 0, 0, 0, 0, 1, 1, 1, 2, 2, 3, 4, 5, 11, 12, -1, 1<<63-1, -1<<63, r.Int(), -r.Int())
}

// anyList returns a list of any numbers.
func anyList(r *rand.Rand) []int {
	var list []int
	for range pick(r, 0, 1, 2, 3, 5) {
		list = append(list, anyNumber(r))
	}
	return list
}

// anyCompany returns a company that is often not valid.
func anyCompany(r *rand.Rand) coupon.Company {
	c := copyOf(pick(r, someCompany(r), theExample(4), coupon.Company{}, coupon.Company{Houses: anyNumber(r), Held: anyList(r)}))
	c.Houses = pick(r, c.Houses, c.Houses, c.Houses, anyNumber(r))
	for range pick(r, 0, 0, 0, 1, 3) {
		n := func() int { return anyNumber(r) }
		switch r.Intn(5) {
		case 0:
			c.Trades = append(c.Trades, trade(n(), n(), n(), to(n(), n()), to(n(), n())))
		case 1:
			c.Dividends = append(c.Dividends, coupon.Dividend{Ex: n(), Record: n(), Pence: n()})
		case 2:
			c.Splits = append(c.Splits, coupon.Split{Day: n(), Num: n(), Den: n()})
		case 3:
			c.Closed = append(c.Closed, to(n(), n()))
		case 4:
			c.Held = anyList(r)
		}
	}
	return c
}

// TestP1Returns: no call panics, and each has a zero value with its error,
// whatever its arguments are.
func TestP1Returns(t *testing.T) {
	r := rand.New(rand.NewSource(1))
	proved := 0
	for range 3000 {
		c := anyCompany(r)
		a := args{coupon.Truth{Sold: anyList(r), Delivered: anyList(r)}, anyNumber(r), anyNumber(r)}
		if len(c.Trades) > 0 && r.Intn(2) == 0 {
			a.t = only(c)
		}
		isProved := coupon.ProveTruth(c, a.t)
		if isProved {
			proved++
		}
		for _, x := range callAll(c, a) {
			if x.e != api.OK && (!x.isZero() || isProved && x.e != api.ErrRange) || x.e == api.OK && !isProved && x.call == "Whole" {
				t.Fatalf("%s of %v, %v: %v, %v", x.call, c, a, x.values, x.e)
			}
		}
	}
	if proved < 100 {
		t.Errorf("only %d truths", proved)
	}
}

// TestP1Widest: most of everything, and as many truths as there can be.
func TestP1Widest(t *testing.T) {
	c := coupon.Company{Houses: 4, Held: list(100, 100, 100, 100), Closed: spans(4, 5, 7, 7)}
	for i := range 4 {
		c.Trades = append(c.Trades, trade(i, (i+1)%4, 100, to(1, 3), to(5, 7)))
		c.Dividends = append(c.Dividends, coupon.Dividend{Ex: 2 + i/2, Record: 6 + i, Pence: 50})
	}
	c.Dividends = c.Dividends[:3]
	c = split(split(c, 1, 6, 1), 6, 6, 1)
	const most = 100 * 720 * 36 * 50
	for dividend, claims := range []coupon.Range{to(-most/6, most/6), to(-most/6, most/6), to(-most/6, 0)} {
		got := allBounds(t, c, dividend)
		rights := to(most-most/6, most+most/6)
		if !slices.Equal(got.claims, slices.Repeat([]coupon.Range{claims}, 4)) || !slices.Equal(got.rights, slices.Repeat([]coupon.Range{rights}, 4)) {
			t.Errorf("Bounds of the dividend %d: %v", dividend, got)
		}
	}
	c.Held = list(0, 0, 0, 99)
	if l, e := coupon.Leave(c); len(l) > 0 || e != api.OK {
		t.Errorf("Leave, if shares come round in a day: %v, %v", l, e)
	}
	for i := range c.Trades {
		c.Trades[i].Delivered = to(6, 8)
		c.Trades[i].Buyer = (i + 2) % 4
	}
	if l, e := coupon.Leave(c); len(l) > 0 || e != api.OK {
		t.Errorf("Leave, if shares go there and back in a day: %v, %v", l, e)
	}
	for i := range c.Trades {
		c.Trades[i].Seller, c.Trades[i].Buyer = i%2, 2
	}
	if l, e := coupon.Leave(c); !slices.Equal(l, list(0, 1, 2, 3)) || e != api.OK {
		t.Errorf("Leave, if nobody has shares: %v, %v", l, e)
	}
}
