package odd_test

import (
	"math/rand"
	"reflect"
	"slices"
	"strings"
	"testing"

	"contango/api"
	"contango/odd"
	"contango/tape"
)

// change is one of the desk of the example, after which it has the error e.
type change struct {
	name   string
	change func(d *odd.Desk)
	e      api.Errno
}

// validChanges are those after which the desk is still valid.
func validChanges() []change {
	return []change{
		{"the least fee", func(d *odd.Desk) { d.Fee = 0 }, api.OK},
		{"the greatest fee", func(d *odd.Desk) { d.Fee = api.MaxOddFee }, api.OK},
		{"no orders", func(d *odd.Desk) { d.Orders = nil }, api.OK},
		{"most orders", func(d *odd.Desk) { d.Orders = append(d.Orders, d.Orders[:2]...) }, api.OK},
		{"the same order twice", func(d *odd.Desk) { d.Orders[0] = d.Orders[1] }, api.OK},
		{"no sales", func(d *odd.Desk) { d.Tape = "" }, api.OK},
		{"a tape without a truth", func(d *odd.Desk) { d.Tape = "AB 3.0" }, api.OK},
		{"a tape without right minutes", func(d *odd.Desk) { d.Tape = "@5 AB 8.2 L1-2 C 0.1" }, api.OK},
		{"the last stock", func(d *odd.Desk) { d.Orders[0].Stock = 1 }, api.OK},
		{"the least number", func(d *odd.Desk) { d.Orders[0].Number = 1 }, api.OK},
		{"the greatest number", func(d *odd.Desk) { d.Orders[0].Number = api.MaxOddNumber }, api.OK},
		{"no limit", func(d *odd.Desk) { d.Orders[1].Limit = 0 }, api.OK},
		{"the least limit", func(d *odd.Desk) { d.Orders[1].Limit = 1 }, api.OK},
		{"the greatest limit", func(d *odd.Desk) { d.Orders[1].Limit = api.MaxTapePrice }, api.OK},
		{"all minutes", func(d *odd.Desk) { d.Orders[0].Minute = to(0, api.MaxTapeMinute) }, api.OK},
		{"the last minute", func(d *odd.Desk) { d.Orders[2].Minute = one(api.MaxTapeMinute) }, api.OK},
	}
}

// wrongChanges are those after which it is not.
func wrongChanges() []change {
	return []change{
		{"too many stocks", func(d *odd.Desk) { d.Board.Stocks = make([]tape.Stock, 5) }, api.ErrLimit},
		{"no stocks", func(d *odd.Desk) { d.Board.Stocks = nil }, api.ErrArg},
		{"a jump too great", func(d *odd.Desk) { d.Board.Jump = 41 }, api.ErrArg},
		{"too many bytes", func(d *odd.Desk) { d.Tape += strings.Repeat(" C", 80) }, api.ErrLimit},
		{"a token without a form", func(d *odd.Desk) { d.Tape += " x" }, api.ErrForm},
		{"a name without a stock", func(d *odd.Desk) { d.Tape += " Q" }, api.ErrName},
		{"a calm without a rush", func(d *odd.Desk) { d.Tape += " ?" }, api.ErrState},
		{"a number at the end", func(d *odd.Desk) { d.Tape += " 3s" }, api.ErrState},
		{"too many sales", func(d *odd.Desk) { d.Tape += strings.Repeat(" 0.7", 5) }, api.ErrLimit},
		{"too many orders", func(d *odd.Desk) { d.Orders = append(d.Orders, d.Orders...) }, api.ErrLimit},
		{"a fee below 0", func(d *odd.Desk) { d.Fee = -1 }, api.ErrArg},
		{"a fee too great", func(d *odd.Desk) { d.Fee = 5 }, api.ErrArg},
		{"a fee far too great", func(d *odd.Desk) { d.Fee = 1<<63 - 1 }, api.ErrArg},
		{"a fee too great without orders", func(d *odd.Desk) { d.Fee, d.Orders = 5, nil }, api.ErrArg},
		{"a stock below 0", func(d *odd.Desk) { d.Orders[0].Stock = -1 }, api.ErrArg},
		{"no such stock", func(d *odd.Desk) { d.Orders[2].Stock = 2 }, api.ErrArg},
		{"no shares", func(d *odd.Desk) { d.Orders[0].Number = 0 }, api.ErrArg},
		{"shares below 0", func(d *odd.Desk) { d.Orders[0].Number = -1 << 63 }, api.ErrArg},
		{"a hundred shares", func(d *odd.Desk) { d.Orders[2].Number = 100 }, api.ErrArg},
		{"a limit below 0", func(d *odd.Desk) { d.Orders[1].Limit = -1 }, api.ErrArg},
		{"a limit too great", func(d *odd.Desk) { d.Orders[1].Limit = 800 }, api.ErrArg},
		{"minutes that end before they begin", func(d *odd.Desk) { d.Orders[2].Minute = to(6, 5) }, api.ErrArg},
		{"a minute below 0", func(d *odd.Desk) { d.Orders[0].Minute = to(-1, 5) }, api.ErrArg},
		{"minutes below 0", func(d *odd.Desk) { d.Orders[0].Minute = to(-1<<63, -1) }, api.ErrArg},
		{"a minute too great", func(d *odd.Desk) { d.Orders[2].Minute = to(5, 601) }, api.ErrArg},
		{"minutes too great", func(d *odd.Desk) { d.Orders[2].Minute = to(601, 1<<63-1) }, api.ErrArg},
		{"all minutes that there are", func(d *odd.Desk) { d.Orders[2].Minute = to(-1<<63, 1<<63-1) }, api.ErrArg},
	}
}

// result is what a call returned, and its error.
type result struct {
	call  string
	value any
	e     api.Errno
}

// callAll calls every function that has an error.
func callAll(d odd.Desk, t odd.Truth, order int, high bool) []result {
	fills, e1 := odd.Play(d, t)
	shares, money, e2 := odd.Has(d, t)
	sales, e3 := odd.Sales(d, order)
	bounds, e4 := odd.Bounds(d)
	verdicts, e5 := odd.Verdicts(d)
	truth, e6 := odd.Show(d, order, high)
	return []result{
		{"CheckDesk", nil, odd.CheckDesk(d)},
		{"Play", fills, e1}, {"Has's shares", shares, e2}, {"Has's money", money, e2},
		{"Sales", sales, e3}, {"Bounds", bounds, e4}, {"Verdicts", verdicts, e5}, {"Show", truth, e6},
	}
}

// isZero reports whether a result is the zero value of its type, or an empty list.
func isZero(x any) bool {
	if t, ok := x.(odd.Truth); ok {
		return len(t.Prices)+len(t.Minutes)+len(t.Orders) == 0
	}
	v := reflect.ValueOf(x)
	return !v.IsValid() || v.IsZero() || v.Kind() == reflect.Slice && v.Len() == 0
}

// TestR1Desk: a desk that is not valid has its error in each call, before those
// of truths and orders; no other result; and no proof.
func TestR1Desk(t *testing.T) {
	for _, x := range wrongChanges() {
		d := theExample()
		x.change(&d)
		for _, order := range []int{0, -1, 5} {
			for _, truth := range []odd.Truth{exampleTruth(), {}} {
				for _, r := range callAll(d, truth, order, true) {
					if r.e != x.e || !isZero(r.value) {
						t.Errorf("%s, %s: %v, %v; want %v", r.call, x.name, r.value, r.e, x.e)
					}
				}
			}
		}
		if odd.ProveTruth(d, exampleTruth()) {
			t.Errorf("ProveTruth, %s", x.name)
		}
	}
}

// TestR1Order: of several errors the one counts that is first in the table.
func TestR1Order(t *testing.T) {
	wrongBoard := func(d *odd.Desk) { d.Board.Small = 10 }
	wrongTape := func(d *odd.Desk) { d.Tape += " x" }
	noTruth := func(d *odd.Desk) { d.Tape = "AB 3.0" }
	noMinutes := func(d *odd.Desk) { d.Tape = "@5 AB 8.2 L1-2 C 0.1" }
	moreOrders := func(d *odd.Desk) { d.Orders = append(d.Orders, d.Orders...) }
	wrongFee := func(d *odd.Desk) { d.Fee = 5 }
	wrongOrder := func(d *odd.Desk) { d.Orders[2].Stock = 2 }
	type changes []func(d *odd.Desk)
	for _, x := range []struct {
		name    string
		changes changes
		order   int
		sales   api.Errno // of Sales, and Show
		all     api.Errno // of Bounds, and Verdicts
		play    api.Errno // of Play, and Has
	}{
		{"board and tape", changes{wrongBoard, wrongTape}, 0, api.ErrArg, api.ErrArg, api.ErrArg},
		{"board and orders", changes{wrongBoard, moreOrders}, 0, api.ErrArg, api.ErrArg, api.ErrArg},
		{"tape and orders", changes{wrongTape, moreOrders}, 9, api.ErrForm, api.ErrForm, api.ErrForm},
		{"tape and fee", changes{wrongTape, wrongFee}, 9, api.ErrForm, api.ErrForm, api.ErrForm},
		{"tape and order", changes{wrongTape, wrongOrder}, 9, api.ErrForm, api.ErrForm, api.ErrForm},
		{"orders and fee", changes{moreOrders, wrongFee}, 9, api.ErrLimit, api.ErrLimit, api.ErrLimit},
		{"orders and order", changes{wrongOrder, moreOrders}, 9, api.ErrLimit, api.ErrLimit, api.ErrLimit},
		{"fee and no truth", changes{wrongFee, noTruth}, 9, api.ErrArg, api.ErrArg, api.ErrArg},
		{"order and no right minutes", changes{wrongOrder, noMinutes}, 9, api.ErrArg, api.ErrArg, api.ErrArg},
		{"no truth", changes{noTruth}, 2, api.ErrFalse, api.ErrFalse, api.ErrRange},
		{"no truth and no such order", changes{noTruth}, 3, api.ErrRange, api.ErrFalse, api.ErrRange},
		{"no right minutes", changes{noMinutes}, 0, api.ErrFalse, api.ErrFalse, api.ErrRange},
		{"no right minutes and no such order", changes{noMinutes}, -1, api.ErrRange, api.ErrFalse, api.ErrRange},
		{"no such order", changes{}, 3, api.ErrRange, api.OK, api.ErrRange},
		{"no such order, below 0", changes{}, -1, api.ErrRange, api.OK, api.ErrRange},
		{"no such order, far away", changes{}, 1<<63 - 1, api.ErrRange, api.OK, api.ErrRange},
	} {
		d := theExample()
		for _, change := range x.changes {
			change(&d)
		}
		for _, r := range callAll(d, odd.Truth{}, x.order, false)[1:] {
			want := map[string]api.Errno{"Sales": x.sales, "Show": x.sales, "Bounds": x.all, "Verdicts": x.all}
			due, ok := want[r.call]
			if !ok {
				due = x.play
			}
			if r.e != due || due != api.OK && !isZero(r.value) {
				t.Errorf("%s, %s: %v, %v; want %v", r.call, x.name, r.value, r.e, due)
			}
		}
	}
}

// TestR1Never: an order of another stock than those of all sales is never
// filled, of which Show alone makes an error; a tape without a truth comes before it.
func TestR1Never(t *testing.T) {
	d := exampleDesk("@7 AB 8.2", 1, buys(1, 0, one(0)))
	for _, r := range callAll(d, odd.Truth{Prices: []int{306}, Minutes: []int{7}, Orders: []int{0}}, 0, true) {
		want := api.OK
		if r.call == "Show" {
			want = api.ErrRange
		}
		if r.e != want {
			t.Errorf("%s: %v, %v; want %v", r.call, r.value, r.e, want)
		}
	}
	d.Tape = "@7 AB 3.0"
	if x, e := odd.Show(d, 0, true); e != api.ErrFalse || !isZero(x) {
		t.Errorf("Show without a truth: %v, %v", x, e)
	}
}

// TestR3Empty: nil and a list without elements are the same.
func TestR3Empty(t *testing.T) {
	for _, orders := range [][]odd.Order{nil, {}} {
		for _, list := range [][]int{nil, {}} {
			d := exampleDesk("", 1, orders...)
			truth := odd.Truth{Prices: list, Minutes: list, Orders: list}
			if !odd.ProveTruth(d, truth) {
				t.Errorf("ProveTruth of %v, %v", d, truth)
			}
			for _, r := range callAll(d, truth, 0, true) {
				isOfOrder := r.call == "Sales" || r.call == "Show"
				isEmpty := isZero(r.value) || reflect.DeepEqual(r.value, []int{0, 0})
				if !isEmpty || (r.e != api.OK) != isOfOrder {
					t.Errorf("%s of %v, %v: %v, %v", r.call, d, truth, r.value, r.e)
				}
			}
		}
	}
}

// copyOf returns the desk in memory of its own.
func copyOf(d odd.Desk) odd.Desk {
	d.Orders = slices.Clone(d.Orders)
	d.Board.Stocks = slices.Clone(d.Board.Stocks)
	return d
}

// copyOfTruth returns the truth in memory of its own.
func copyOfTruth(t odd.Truth) odd.Truth {
	return odd.Truth{Prices: slices.Clone(t.Prices), Minutes: slices.Clone(t.Minutes), Orders: slices.Clone(t.Orders)}
}

// wipe writes to all memory of a list, and beyond its end.
func wipe[T any](list []T) { clear(list[:cap(list)]) }

// spoil writes to all memory of a result.
func spoil(x any) {
	switch l := x.(type) {
	case []int:
		wipe(l)
	case []odd.Fill:
		wipe(l)
	case []odd.Range:
		wipe(l)
	case odd.Truth:
		wipe(l.Prices)
		wipe(l.Minutes)
		wipe(l.Orders)
	}
}

// TestR4Memory: arguments are not written to, results share no memory.
func TestR4Memory(t *testing.T) {
	r := rand.New(rand.NewSource(4))
	for _, s := range samples(100) {
		truth := s.truth(r)
		d, x := copyOf(s.d), copyOfTruth(truth)
		for order := range d.Orders {
			kept := callAll(d, x, order, true)
			again := callAll(d, x, order, true)
			for i, r := range callAll(d, x, order, true) {
				spoil(r.value)
				spoil(again[i].value)
				if !reflect.DeepEqual(kept, callAll(d, x, order, true)) || !reflect.DeepEqual(d, s.d) || !reflect.DeepEqual(x, truth) {
					t.Fatalf("%s: %v, %v has become %v, %v", r.call, s.d, truth, d, x)
				}
			}
		}
	}
	d := exampleDesk("@7 AB 8.2", 1, buys(0, 0, one(6)))
	truth, _ := odd.Show(d, 0, true)
	wipe(truth.Prices)
	wipe(truth.Orders)
	if !slices.Equal(truth.Minutes, []int{7}) {
		t.Errorf("the minutes have become %v with the prices, or the orders", truth.Minutes)
	}
}

// anyNumber returns numbers within limits, near them, and far away.
func anyNumber(r *rand.Rand) int {
	return pick(r, 0, 0, 0, 1, 1, 2, 4, 5, 6, 7, 99, 100, 600, 601, 799, 800, -1, 1<<63-1, -1<<63, r.Int(), -r.Int())
}

// anyList returns a list of any numbers.
func anyList(r *rand.Rand) []int {
	var list []int
	for range pick(r, 0, 1, 2, 4, 8, 9) {
		list = append(list, anyNumber(r))
	}
	return list
}

// anyDesk returns a desk that is often not valid.
func anyDesk(r *rand.Rand) odd.Desk {
	d := pick(r, someSample(r).d, theExample(), odd.Desk{})
	d.Tape = pick(r, d.Tape, d.Tape, "", "AB 3.0", "AB 0.0 5.0", "@600 L60-60 AB 9.7", "\x00", "x", strings.Repeat("A ", 90))
	d.Fee = pick(r, d.Fee, d.Fee, anyNumber(r))
	d.Board.Jump = pick(r, d.Board.Jump, d.Board.Jump, anyNumber(r))
	d.Orders = slices.Clone(d.Orders)
	for range pick(r, 0, 1, 2, 6) {
		o := odd.Order{Buy: r.Intn(2) == 0, Stock: anyNumber(r), Number: anyNumber(r), Limit: anyNumber(r), Minute: to(anyNumber(r), anyNumber(r))}
		d.Orders = append(d.Orders, o)
	}
	return d
}

// TestP1Returns: no call panics, and each has a zero value with its error,
// whatever its arguments are.
func TestP1Returns(t *testing.T) {
	r := rand.New(rand.NewSource(1))
	for range 3000 {
		d := anyDesk(r)
		truth := odd.Truth{Prices: anyList(r), Minutes: anyList(r), Orders: anyList(r)}
		order := anyNumber(r)
		isProved := odd.ProveTruth(d, truth)
		for _, x := range callAll(d, truth, order, r.Intn(2) == 0) {
			if x.e != api.OK && (!isZero(x.value) || isProved && x.call == "Play") {
				t.Fatalf("%s of %v, %v, %d: %v, %v", x.call, d, truth, order, x.value, x.e)
			}
		}
	}
}

// TestP1Widest: a desk with as much as there may be of everything.
func TestP1Widest(t *testing.T) {
	b := tape.Board{Stocks: []tape.Stock{{Name: "A", Start: tape.Range{Lo: 1, Hi: api.MaxTapePrice}}}, Jump: api.MaxTapeJump, Small: 1}
	all := to(0, api.MaxTapeMinute)
	d := odd.Desk{Board: b, Tape: "@600 L0-60 A 0.0 5.0 0.0 5.0 0.0 5.0 0.0 5.0", Fee: api.MaxOddFee, Orders: []odd.Order{
		buys(0, 0, all), sells(0, 0, all), buys(0, 244, all), sells(0, 716, all), buys(0, 44, all),
	}}
	got := ask(t, d)
	sales := []int{0, 1, 2, 3, 4, 5, 6, 7}
	want := asked{
		sales:    [][]int{sales, sales, sales, sales, {1, 3, 5, 7}},
		bounds:   []odd.Range{to(44, 764), to(36, 756), to(44, 244), to(716, 756), one(44)},
		verdicts: slices.Repeat([]int{odd.Open}, 5),
	}
	if !reflect.DeepEqual(got, want) {
		t.Errorf("%v; want %v", got, want)
	}
	for i, b := range got.bounds {
		checkShow(t, d, i, false, b)
	}
}
