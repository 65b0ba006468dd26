package post_test

import (
	"math/rand"
	"reflect"
	"slices"
	"testing"

	"contango/api"
	"contango/post"
)

// change is one of the post of the example, after which it has the error e.
type change struct {
	name   string
	change func(p *post.Post)
	e      api.Errno
}

// validChanges are those after which the post is still valid.
func validChanges() []change {
	return []change{
		{"nothing", func(p *post.Post) {}, api.OK},
		{"one order", func(p *post.Post) { p.Orders = p.Orders[:1] }, api.OK},
		{"most orders", func(p *post.Post) { p.Orders = append(p.Orders, p.Orders[:2]...) }, api.OK},
		{"the least limit", func(p *post.Post) { p.Orders[0].Limit = 1 }, api.OK},
		{"the greatest limit", func(p *post.Post) { p.Orders[2].Limit = 100 }, api.OK},
		{"the least number", func(p *post.Post) { p.Orders[1].Number = 1 }, api.OK},
		{"the greatest number", func(p *post.Post) { p.Orders[3].Number = 20 }, api.OK},
		{"all minutes", func(p *post.Post) { p.Orders[0].Minute = to(0, 30) }, api.OK},
		{"the first minute", func(p *post.Post) { p.Orders[1].Minute = to(0, 0) }, api.OK},
		{"the last minute", func(p *post.Post) { p.Orders[2].Minute = to(30, 30) }, api.OK},
		{"one side", func(p *post.Post) { p.Orders[2].Buy, p.Orders[3].Buy = false, false }, api.OK},
	}
}

// wrongChanges are all those after which the post is not valid.
func wrongChanges() []change {
	return []change{
		{"too many orders", func(p *post.Post) { p.Orders = append(p.Orders, p.Orders[:3]...) }, api.ErrLimit},
		{"too many orders, not valid", func(p *post.Post) { p.Orders = make([]post.Order, 7) }, api.ErrLimit},
		{"far too many orders", func(p *post.Post) { p.Orders = make([]post.Order, 1<<16) }, api.ErrLimit},
		{"no post", func(p *post.Post) { *p = post.Post{} }, api.ErrArg},
		{"an order of nothing", func(p *post.Post) { p.Orders = append(p.Orders, post.Order{}) }, api.ErrArg},
		{"a limit of 0", func(p *post.Post) { p.Orders[0].Limit = 0 }, api.ErrArg},
		{"a limit below 0", func(p *post.Post) { p.Orders[3].Limit = -1 }, api.ErrArg},
		{"a limit far below 0", func(p *post.Post) { p.Orders[2].Limit = lowest }, api.ErrArg},
		{"a limit too great", func(p *post.Post) { p.Orders[3].Limit = 101 }, api.ErrArg},
		{"a limit far too great", func(p *post.Post) { p.Orders[0].Limit = farthest }, api.ErrArg},
		{"a number of 0", func(p *post.Post) { p.Orders[1].Number = 0 }, api.ErrArg},
		{"a number below 0", func(p *post.Post) { p.Orders[3].Number = -1 }, api.ErrArg},
		{"a number far below 0", func(p *post.Post) { p.Orders[0].Number = lowest }, api.ErrArg},
		{"a number too great", func(p *post.Post) { p.Orders[2].Number = 21 }, api.ErrArg},
		{"a number far too great", func(p *post.Post) { p.Orders[3].Number = farthest }, api.ErrArg},
		{"minutes that end before they begin", func(p *post.Post) { p.Orders[0].Minute = to(2, 1) }, api.ErrArg},
		{"a minute below 0", func(p *post.Post) { p.Orders[3].Minute = to(-1, 0) }, api.ErrArg},
		{"minutes below 0", func(p *post.Post) { p.Orders[1].Minute = to(-1, -1) }, api.ErrArg},
		{"a minute too great", func(p *post.Post) { p.Orders[2].Minute = to(30, 31) }, api.ErrArg},
		{"minutes too great", func(p *post.Post) { p.Orders[3].Minute = to(31, 31) }, api.ErrArg},
		{"all minutes that there are", func(p *post.Post) { p.Orders[0].Minute = to(lowest, farthest) }, api.ErrArg},
	}
}

// args are all that a call can have beside the post.
type args struct {
	truth   []int
	records []post.Sale
}

// result is what a call returned, and its error.
type result struct {
	call   string
	values []any
	e      api.Errno
}

// callAll calls every function that has an error.
func callAll(p post.Post, a args) []result {
	sales, e1 := post.Play(p, a.truth)
	fills, money, e2 := post.Fills(p)
	sure, e3 := post.Surely(p)
	price, shares, e4 := post.Open(p)
	truth, e5 := post.Explain(p, a.records)
	left, e6 := post.Leave(p, a.records)
	return []result{
		{"CheckPost", nil, post.CheckPost(p)},
		{"Play", []any{sales}, e1}, {"Fills", []any{fills, money}, e2}, {"Surely", []any{sure}, e3},
		{"Open", []any{price, shares}, e4}, {"Explain", []any{truth}, e5}, {"Leave", []any{left}, e6},
	}
}

// isZero reports whether each result is the zero value of its type.
func (r result) isZero() bool {
	return !slices.ContainsFunc(r.values, func(x any) bool { return !reflect.ValueOf(x).IsZero() })
}

// TestR1Post: a post that is not valid has its error in each call, before those of
// all else; no other result; and no proof.
func TestR1Post(t *testing.T) {
	for _, x := range wrongChanges() {
		p := theExample()
		x.change(&p)
		for _, a := range []args{
			{theTruth(), theSales()},
			{nil, nil},
			{nil, make([]post.Sale, 7)},
			{make([]int, len(p.Orders)), append(theSales(), earlySales()...)},
		} {
			for _, got := range callAll(p, a) {
				if got.e != x.e || !got.isZero() {
					t.Errorf("%s, %s: %v, %v; want %v", got.call, x.name, got.values, got.e, x.e)
				}
			}
			if post.ProveTruth(p, a.truth, a.records) || post.ProveTruth(p, a.truth, nil) {
				t.Errorf("ProveTruth, %s", x.name)
			}
		}
	}
}

// TestR1LimitFirst: too many orders count before all else that is wrong.
func TestR1LimitFirst(t *testing.T) {
	for _, x := range wrongChanges() {
		for _, more := range []post.Order{{}, buys(3, 40, 0, 30)} {
			p := theExample()
			x.change(&p)
			p.Orders = append(p.Orders, slices.Repeat([]post.Order{more}, 7)...)
			if e := post.CheckPost(p); e != api.ErrLimit {
				t.Errorf("CheckPost, %s and too many orders: %v", x.name, e)
			}
		}
	}
}

// due are the errors of calls; of all others it is OK.
type due map[string]api.Errno

// with returns the errors, and these, too.
func (d due) with(e api.Errno, calls ...string) due {
	more := due{}
	for call, e := range d {
		more[call] = e
	}
	for _, call := range calls {
		more[call] = e
	}
	return more
}

// TestR1Order: what each call asks for beside the post, in the order of the table.
func TestR1Order(t *testing.T) {
	noTruth := due{"Play": api.ErrRange}
	notTold := due{"Explain": api.ErrFalse}
	tooLong := due{"Explain": api.ErrLimit, "Leave": api.ErrLimit}
	unsold := at(buys(3, 40, 0, 30), sells(3, 41, 0, 30))
	six := slices.Repeat(theSales(), 3)
	for _, x := range []struct {
		name string
		p    post.Post
		a    args
		want due
	}{
		{"nothing", theExample(), args{theTruth(), theSales()}, nil},
		{"no records", theExample(), args{theTruth(), nil}, nil},
		{"no truth", theExample(), args{nil, theSales()}, noTruth},
		{"a truth too short", theExample(), args{theTruth()[:3], nil}, noTruth},
		{"a truth too long", theExample(), args{append(theTruth(), 0), nil}, noTruth},
		{"a minute too soon", theExample(), args{list(0, 2, 3, 0), nil}, noTruth},
		{"a minute too late", theExample(), args{list(1, 2, 3, 1), nil}, noTruth},
		{"a minute far away", theExample(), args{list(1, farthest, 3, 0), nil}, noTruth},
		{"a minute far below 0", theExample(), args{list(1, 2, 3, lowest), nil}, noTruth},
		{"no truth explains the records", theExample(), args{theTruth(), append(theSales(), earlySales()...)}, notTold},
		{"as many records as there may be", theExample(), args{early(), six}, notTold},
		{"one too many", theExample(), args{early(), append(six, six[0])}, tooLong},
		{"far too many", theExample(), args{early(), make([]post.Sale, 1<<16)}, tooLong},
		{"no share", unsold, args{list(0, 30), nil}, due{"Open": api.ErrNone}},
		{"no share, and no truth, and records that are not explained", unsold, args{nil, theSales()}, notTold.with(api.ErrNone, "Open").with(api.ErrRange, "Play")},
		{"all", unsold, args{list(0, 31), append(six, six...)}, tooLong.with(api.ErrNone, "Open").with(api.ErrRange, "Play")},
	} {
		for _, got := range callAll(x.p, x.a) {
			if got.e != x.want[got.call] || got.e != api.OK && !got.isZero() {
				t.Errorf("%s, %s: %v, %v; want %v", got.call, x.name, got.values, got.e, x.want[got.call])
			}
		}
	}
}

// TestR3Empty: nil and a list without elements are the same.
func TestR3Empty(t *testing.T) {
	for _, records := range [][]post.Sale{nil, {}} {
		if left, e := post.Leave(theExample(), records); len(left) > 0 || e != api.OK {
			t.Errorf("Leave of no records: %v, %v", left, e)
		}
		if truth, e := post.Explain(theExample(), records); !post.ProveTruth(theExample(), truth, records) || e != api.OK {
			t.Errorf("Explain of no records: %v, %v", truth, e)
		}
	}
	for _, orders := range [][]post.Order{nil, {}} {
		if e := post.CheckPost(at(orders...)); e != api.ErrArg {
			t.Errorf("CheckPost of no orders: %v", e)
		}
	}
	for _, truth := range [][]int{nil, {}} {
		if _, e := post.Play(theExample(), truth); e != api.ErrRange || post.ProveTruth(theExample(), truth, nil) {
			t.Errorf("Play of an empty truth: %v", e)
		}
	}
}

// spoil writes to all memory of the lists that a result has, and beyond their ends.
func (r result) spoil() {
	for _, x := range r.values {
		switch l := x.(type) {
		case []int:
			for i := range l[:cap(l)] {
				l[:cap(l)][i] = -7
			}
		case []post.Range:
			for i := range l[:cap(l)] {
				l[:cap(l)][i] = to(-7, -7)
			}
		case []post.Sale:
			for i := range l[:cap(l)] {
				l[:cap(l)][i] = sold(-7, -7, -7, -7)
			}
		}
	}
}

// TestR4Memory: arguments are not written to, results share no memory.
func TestR4Memory(t *testing.T) {
	r := rand.New(rand.NewSource(4))
	for range 300 {
		p := somePost(r, api.MaxPostOrders)
		a := args{someTruth(r, p), nil}
		for range 2 {
			a.records = append(a.records, play(t, p, someTruth(r, p))...)
		}
		a.records = a.records[:min(len(a.records), api.MaxPostRecords)]
		mine, with := clone(p), args{slices.Clone(a.truth), slices.Clone(a.records)}
		kept, again := callAll(mine, with), callAll(mine, with)
		for i, x := range again {
			if !reflect.DeepEqual(x, kept[i]) {
				t.Fatalf("%s of %v, %v: %v has become %v", x.call, p, a, kept[i].values, x.values)
			}
			x.spoil()
			if !reflect.DeepEqual(mine, p) || !reflect.DeepEqual(with, a) || !reflect.DeepEqual(kept, callAll(mine, with)) {
				t.Fatalf("%s: %v, %v has become %v, %v", x.call, p, a, mine, with)
			}
		}
		post.ProveTruth(mine, with.truth, with.records)
		if !reflect.DeepEqual(mine, p) || !reflect.DeepEqual(with, a) {
			t.Fatalf("ProveTruth: %v, %v has become %v, %v", p, a, mine, with)
		}
	}
}

// TestR4Spare: memory beyond the ends of lists is not written to.
func TestR4Spare(t *testing.T) {
	p, a := theExample(), args{append(make([]int, 0, 9), theTruth()...), append(make([]post.Sale, 0, 9), theSales()...)}
	p.Orders = append(make([]post.Order, 0, 9), p.Orders...)
	for _, x := range callAll(p, a) {
		x.spoil()
	}
	if !post.ProveTruth(p, a.truth, a.records) {
		t.Errorf("ProveTruth of %v", a)
	}
	isClean := slices.Equal(p.Orders, theExample().Orders) && slices.Equal(a.truth, theTruth()) && slices.Equal(a.records, theSales())
	for i := 4; i < 9; i++ {
		isClean = isClean && p.Orders[:9][i] == post.Order{} && a.truth[:9][i] == 0 && a.records[:9][i] == post.Sale{}
	}
	if !isClean {
		t.Errorf("%v and %v: written to", p, a)
	}
}

// anyNumber returns numbers within limits, near them, and far away.
func anyNumber(r *rand.Rand) int {
	return pick(r, 0, 1, 1, 1, 1, 2, 2, 3, 20, 21, 30, 31, 100, 101, -1, farthest, lowest, r.Int(), -r.Int())
}

// anyPost returns a post that is often not valid.
func anyPost(r *rand.Rand) post.Post {
	p := clone(pick(r, somePost(r, api.MaxPostOrders), somePost(r, api.MaxPostOrders), theExample(), post.Post{}))
	if len(p.Orders) == 0 {
		return p
	}
	switch o := &p.Orders[r.Intn(len(p.Orders))]; r.Intn(8) {
	case 0:
		o.Limit = anyNumber(r)
	case 1:
		o.Number = anyNumber(r)
	case 2:
		o.Minute = to(anyNumber(r), anyNumber(r))
	case 3:
		p.Orders = slices.Repeat(p.Orders, r.Intn(4))
	case 4:
		p.Orders = append(p.Orders, post.Order{})
	}
	return p
}

// anyArgs returns what often is no truth, or not explained.
func anyArgs(r *rand.Rand, p post.Post) args {
	var a args
	for _, o := range p.Orders {
		a.truth = append(a.truth, pick(r, o.Minute.Lo, o.Minute.Lo, o.Minute.Lo, o.Minute.Hi, o.Minute.Hi, anyNumber(r)))
	}
	if r.Intn(4) == 0 {
		a.truth = append(a.truth, anyNumber(r))
	}
	if sales, e := post.Play(p, a.truth); e == api.OK {
		a.records = sales
	}
	for range pick(r, 0, 0, 1, 2, 6) {
		a.records = append(a.records, sold(anyNumber(r), anyNumber(r), anyNumber(r), anyNumber(r)))
	}
	return a
}

// TestP1Returns: no call panics, and each has no result with its error, whatever
// its arguments are.
func TestP1Returns(t *testing.T) {
	r := rand.New(rand.NewSource(1))
	is, explained := map[api.Errno]int{}, map[api.Errno]int{}
	for range 5000 {
		p := anyPost(r)
		a := anyArgs(r, p)
		e := post.CheckPost(p)
		is[e]++
		for _, x := range callAll(p, a) {
			if x.e != api.OK && !x.isZero() || e != api.OK && x.e != e {
				t.Fatalf("%s of %v, %v: %v, %v", x.call, p, a, x.values, x.e)
			}
			if x.call == "Explain" {
				explained[x.e]++
			}
		}
		if post.ProveTruth(p, a.truth, a.records) && e != api.OK {
			t.Fatalf("ProveTruth of %v, %v", p, a)
		}
	}
	if is[api.OK] < 1000 || is[api.ErrArg] < 500 || is[api.ErrLimit] < 200 || explained[api.OK] < 500 || explained[api.ErrFalse] < 300 {
		t.Errorf("errors: %v; of Explain: %v", is, explained)
	}
}

// TestP1Widest: as much as there may be of everything: the orders come in any
// order.
func TestP1Widest(t *testing.T) {
	p := whenever(buys(20, 100, 0, 0), sells(19, 100, 0, 0), buys(18, 100, 0, 0), sells(17, 100, 0, 0), buys(16, 100, 0, 0), sells(20, 100, 0, 0))
	// Only what sells comes short, the last ones of them by 2.
	got, money, e := post.Fills(p)
	if !slices.Equal(got, spans(20, 20, 17, 19, 18, 18, 15, 17, 16, 16, 18, 20)) || !slices.Equal(money, spans(2000, 2000, 1700, 1900, 1800, 1800, 1500, 1700, 1600, 1600, 1800, 2000)) || e != api.OK {
		t.Errorf("Fills: %v, %v, %v", got, money, e)
	}
	if sure, e := post.Surely(p); !slices.Equal(sure, list(0, 2, 4)) || e != api.OK {
		t.Errorf("Surely: %v, %v", sure, e)
	}
	wrong := slices.Repeat(said(sold(lowest, farthest, lowest, farthest)), 6)
	if left, e := post.Leave(p, wrong); !slices.Equal(left, list(0, 1, 2, 3, 4, 5)) || e != api.OK {
		t.Errorf("Leave: %v, %v", left, e)
	}
}
