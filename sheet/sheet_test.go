package sheet_test

import (
	"reflect"
	"slices"
	"testing"

	"contango/api"
	"contango/sheet"
)

// to returns the range with these ends.
func to(low, high int) sheet.Range { return sheet.Range{Lo: low, Hi: high} }

// one returns the range of one number.
func one(n int) sheet.Range { return to(n, n) }

// pass returns an entry that passes a sheet on.
func pass(number, from, into int, day sheet.Range) sheet.Entry {
	return sheet.Entry{Kind: sheet.Pass, Sheet: number, From: from, To: into, Day: day}
}

// loan returns an entry that lends a sheet.
func loan(number, lender, borrower int, day sheet.Range) sheet.Entry {
	return sheet.Entry{Kind: sheet.Loan, Sheet: number, From: lender, To: borrower, Day: day}
}

// back returns an entry that returns a sheet.
func back(number, borrower, lender int, day sheet.Range) sheet.Entry {
	return sheet.Entry{Kind: sheet.Return, Sheet: number, From: borrower, To: lender, Day: day}
}

// sight returns a sight.
func sight(number, house, day int) sheet.Sight {
	return sheet.Sight{Sheet: number, House: house, Day: day}
}

// always has all days.
func always() sheet.Range { return to(0, api.MaxSheetDay) }

// register returns one of three houses.
func register(start []int, entries ...sheet.Entry) sheet.Register {
	return sheet.Register{Houses: 3, Start: start, Entries: entries}
}

// seen returns the register with more sights.
func seen(r sheet.Register, sights ...sheet.Sight) sheet.Register {
	r.Sights = slices.Concat(r.Sights, sights)
	return r
}

// theExample is the register of the chapter's examples, with more entries.
func theExample(more ...sheet.Entry) sheet.Register {
	r := register([]int{0, 1}, loan(0, 0, 1, to(1, 3)), pass(0, 1, 2, to(2, 4)), back(1, 1, 0, to(3, 5)))
	r.Entries = append(r.Entries, more...)
	return r
}

// twoLoans has two sheets that are lent, on days that meet.
func twoLoans() sheet.Register {
	return register([]int{0, 0}, loan(0, 0, 1, to(1, 2)), loan(1, 0, 1, to(2, 3)))
}

// swapped has a sheet that is lent, and another one that is returned for it.
func swapped() sheet.Register {
	return register([]int{0, 1}, loan(0, 0, 1, to(1, 3)), back(1, 1, 0, to(1, 3)))
}

// course returns the houses of a sheet on all days: these on the first ones, and
// the last of them on all others.
func course(houses ...int) []int {
	for len(houses) <= api.MaxSheetDay {
		houses = append(houses, houses[len(houses)-1])
	}
	return houses
}

func TestP5_1CheckRegister(t *testing.T) {
	if e := sheet.CheckRegister(theExample()); e != api.OK {
		t.Errorf("CheckRegister of the example: %v", e)
	}
	for _, x := range append(validChanges(), wrongChanges()...) {
		r := theExample()
		x.change(&r)
		if e := sheet.CheckRegister(r); e != x.e {
			t.Errorf("CheckRegister, %s: %v; want %v", x.name, e, x.e)
		}
	}
}

// played is a register with days of its entries, and what is due of them.
type played struct {
	name  string
	r     sheet.Register
	truth []int
	want  [][]int
	e     api.Errno
}

// right returns days on which the entries can happen.
func right(name string, r sheet.Register, truth []int, want ...[]int) played {
	return played{name, r, truth, want, api.OK}
}

// wrong returns days on which they cannot.
func wrong(name string, r sheet.Register, truth ...int) played {
	return played{name, r, truth, nil, api.ErrFalse}
}

func allPlayed() []played {
	crossed := register([]int{0}, pass(0, 1, 2, always()), pass(0, 0, 1, always()))
	return []played{
		right("the example", theExample(), []int{1, 2, 3}, course(0, 1, 2), course(1, 1, 1, 0)),
		right("the example on one day", theExample(), []int{3, 3, 3}, course(0, 0, 0, 2), course(1, 1, 1, 0)),
		right("the example on its last days", theExample(), []int{3, 4, 5}, course(0, 0, 0, 1, 2), course(1, 1, 1, 1, 1, 0)),
		wrong("the example in another order", theExample(), 3, 2, 3),
		right("no entries", register([]int{2, 0}), nil, course(2), course(0)),
		right("the first day", register([]int{0}, pass(0, 0, 1, one(0))), []int{0}, course(1)),
		right("the last day", register([]int{0}, pass(0, 0, 1, one(9))), []int{9}, []int{0, 0, 0, 0, 0, 0, 0, 0, 0, 1}),
		right("there and back on one day", register([]int{0}, pass(0, 0, 1, one(4)), pass(0, 1, 0, one(4))), []int{4, 4}, course(0)),
		right("a later entry on an earlier day", crossed, []int{5, 4}, course(0, 0, 0, 0, 1, 2)),
		wrong("a later entry on the same day", crossed, 4, 4),
		wrong("a later entry on a later day", crossed, 3, 4),
		wrong("from another house", register([]int{0}, pass(0, 2, 1, always())), 3),
		wrong("another sheet is there", register([]int{0, 1}, pass(0, 1, 2, always())), 3),
		wrong("passed on twice", register([]int{0}, pass(0, 0, 1, always()), pass(0, 0, 1, always())), 3, 4),
		wrong("lent from another house", register([]int{0}, loan(0, 2, 1, always())), 3),
		right("sights play no part", seen(theExample(), sight(0, 2, 0), sight(0, 1, 0)), []int{1, 2, 3}, course(0, 1, 2), course(1, 1, 1, 0)),
	}
}

func allReturned() []played {
	lent := []sheet.Entry{loan(0, 0, 1, always()), back(0, 1, 0, always())}
	twice := register([]int{0, 0}, loan(0, 0, 1, one(1)), loan(1, 0, 1, one(1)), back(0, 1, 0, one(2)), back(1, 1, 0, one(2)))
	return []played{
		right("returned", register([]int{0}, lent...), []int{2, 4}, course(0, 0, 1, 1, 0)),
		right("returned on the same day", register([]int{0}, lent...), []int{2, 2}, course(0)),
		right("another sheet is returned", register([]int{0, 1}, lent[0], back(1, 1, 0, always())), []int{2, 3}, course(0, 0, 1), course(1, 1, 1, 0)),
		wrong("returned before it is lent", register([]int{0, 1}, lent[0], back(1, 1, 0, always())), 2, 1),
		wrong("returned on the day on which it is lent, but before", register([]int{0, 1}, back(1, 1, 0, always()), lent[0]), 2, 2),
		wrong("returned without a loan", register([]int{1}, back(0, 1, 0, always())), 2),
		wrong("returned after it was passed on", register([]int{0}, pass(0, 0, 1, always()), lent[1]), 2, 3),
		wrong("the borrower lends it", register([]int{0, 1, 2}, lent[0], pass(2, 2, 0, always()), back(2, 0, 1, always())), 1, 2, 3),
		wrong("returned by a house that did not borrow", register([]int{0, 2}, lent[0], back(1, 2, 0, always())), 1, 2),
		wrong("returned to a house that did not lend", register([]int{0}, lent[0], back(0, 1, 2, always())), 1, 2),
		wrong("returned from another house", register([]int{0, 0}, lent[0], back(1, 1, 0, always())), 1, 2),
		right("two loans are returned", twice, []int{1, 1, 2, 2}, course(0, 1, 0), course(0, 1, 0)),
		wrong("one loan is returned twice", register([]int{0, 1}, append(lent, back(1, 1, 0, always()))...), 1, 2, 3),
		right("lent again and returned again", register([]int{0}, append(lent, lent...)...), []int{1, 2, 3, 4}, course(0, 1, 0, 1, 0)),
		right("the other one lends, too", register([]int{0, 1}, lent[0], loan(1, 1, 0, always()), back(1, 0, 1, always()), lent[1]), []int{1, 1, 2, 3}, course(0, 1, 1, 0), course(1, 0, 1)),
	}
}

func TestP5_1Play(t *testing.T) {
	for _, x := range append(allPlayed(), allReturned()...) {
		if l, e := sheet.Play(x.r, x.truth); e != x.e || !reflect.DeepEqual(l, x.want) {
			t.Errorf("Play, %s: %v, %v; want %v, %v", x.name, l, e, x.want, x.e)
		}
		if x.r.Sights == nil && sheet.ProveTruth(x.r, x.truth) != (x.e == api.OK) {
			t.Errorf("ProveTruth, %s", x.name)
		}
	}
}

// TestP5_1PlayRange: a list that has not a day of its Day for each entry.
func TestP5_1PlayRange(t *testing.T) {
	for _, truth := range [][]int{
		nil, {1, 2}, {1, 2, 3, 4}, {0, 2, 3}, {1, 1, 3}, {1, 2, 2}, {4, 4, 4}, {1, 5, 5}, {1, 2, 6}, {1, 2, -1}, {-1 << 63, 2, 3}, {1, 2, 1<<63 - 1},
	} {
		if l, e := sheet.Play(theExample(), truth); l != nil || e != api.ErrRange {
			t.Errorf("Play of %v: %v, %v", truth, l, e)
		}
		if sheet.ProveTruth(theExample(), truth) {
			t.Errorf("ProveTruth of %v", truth)
		}
	}
}

func TestP5_2ProveTruth(t *testing.T) {
	for _, x := range []struct {
		name   string
		change func(r *sheet.Register)
		truth  []int
		want   bool
	}{
		{"the example", func(r *sheet.Register) {}, []int{1, 2, 3}, true},
		{"a sight before the entry of its day", func(r *sheet.Register) { r.Sights[0] = sight(0, 0, 1) }, []int{1, 2, 3}, false},
		{"a sight after the entry of its day", func(r *sheet.Register) { r.Sights[0] = sight(0, 1, 1) }, []int{1, 2, 3}, true},
		{"a sight on the day before", func(r *sheet.Register) { r.Sights[0] = sight(0, 0, 0) }, []int{1, 2, 3}, true},
		{"a sight between two entries of one day", func(r *sheet.Register) { r.Sights[0] = sight(0, 1, 3) }, []int{3, 3, 3}, false},
		{"a sight after two entries of one day", func(r *sheet.Register) { r.Sights[0] = sight(0, 2, 3) }, []int{3, 3, 3}, true},
		{"a sight on the last day", func(r *sheet.Register) { r.Sights[0] = sight(1, 0, 9) }, []int{1, 2, 3}, true},
		{"a sight of another sheet", func(r *sheet.Register) { r.Sights[0] = sight(1, 2, 3) }, []int{1, 2, 3}, false},
		{"the second sight is wrong", func(r *sheet.Register) { r.Sights = append(r.Sights, sight(0, 1, 3)) }, []int{1, 2, 3}, false},
		{"both sights are right", func(r *sheet.Register) { r.Sights = append(r.Sights, sight(0, 2, 2)) }, []int{1, 2, 3}, true},
		{"a register that is not valid", func(r *sheet.Register) { r.Houses = 5 }, []int{1, 2, 3}, false},
		{"an entry that is not valid", func(r *sheet.Register) { r.Entries[1].Kind = 3 }, []int{1, 2, 3}, false},
		{"a sight that is not valid", func(r *sheet.Register) { r.Sights[0] = sight(0, 2, 10) }, []int{1, 2, 3}, false},
	} {
		r := seen(theExample(), sight(1, 1, 2))
		x.change(&r)
		if got := sheet.ProveTruth(r, x.truth); got != x.want {
			t.Errorf("ProveTruth, %s: %v", x.name, got)
		}
	}
}

// contradicted is a register with what has to be left out of it.
type contradicted struct {
	name  string
	r     sheet.Register
	first int
	leave []int
}

const noEntry = -1

func allContradicted() []contradicted {
	astray := pass(1, 2, 0, always())
	there, away := pass(0, 0, 1, one(1)), pass(0, 1, 2, one(2))
	return []contradicted{
		{"the example", theExample(), noEntry, nil},
		{"the example with the entry 3", theExample(astray), 3, []int{3}},
		{"no entries", register([]int{0}), noEntry, nil},
		{"one house", sheet.Register{Houses: 1, Start: []int{0}, Sights: []sheet.Sight{sight(0, 0, 4)}}, noEntry, nil},
		{"a right sight", seen(theExample(), sight(0, 0, 2)), noEntry, nil},
		{"a wrong sight", seen(theExample(), sight(0, 0, 4)), noEntry, []int{3}},
		{"two sights of one day", seen(theExample(), sight(0, 0, 2), sight(0, 2, 2)), noEntry, []int{3}},
		{"two sights against the order of the entries", seen(theExample(), sight(0, 2, 2), sight(0, 1, 3)), noEntry, []int{3}},
		{"sights of a sheet without entries", seen(register([]int{0, 1}), sight(1, 0, 0), sight(0, 0, 9), sight(1, 2, 9)), noEntry, []int{0, 2}},
		{"an entry, or the sight", seen(register([]int{0}, there), sight(0, 0, 5)), noEntry, []int{0}},
		{"two entries, or the sight", seen(register([]int{0}, there, away), sight(0, 0, 5)), noEntry, []int{2}},
		{"an entry, or two sights", seen(register([]int{0}, away, there), sight(0, 1, 5), sight(0, 1, 6)), 0, []int{0}},
		{"all of it", seen(register([]int{0}, away, away), sight(0, 1, 0), sight(0, 2, 9)), 0, []int{0, 1, 2, 3}},
		{"the same entry twice", register([]int{0}, there, there), 1, []int{0}},
		{"entries in another order", register([]int{0}, away, there), 0, nil},
		{"entries in another order on one day", register([]int{0}, pass(0, 1, 2, one(1)), there), 0, []int{0}},
		{"days in another order", register([]int{0}, there, pass(0, 1, 2, one(0))), 1, []int{1}},
		{"a return before its loan", register([]int{0, 1}, back(1, 1, 0, always()), loan(0, 0, 1, one(3))), 0, nil},
		{"a return without a loan", register([]int{1}, back(0, 1, 0, always())), 0, []int{0}},
		{"two returns of one loan", register([]int{0, 1}, loan(0, 0, 1, one(3)), back(1, 1, 0, always()), back(0, 1, 0, always())), 2, []int{1}},
		{"a loan that cannot be, and its return", register([]int{0, 1}, loan(0, 2, 1, always()), back(1, 1, 2, always())), 0, []int{0, 1}},
		{"a pass that cannot be, or two entries", register([]int{0}, pass(0, 0, 2, one(0)), loan(0, 0, 1, always()), back(0, 1, 0, always())), 1, []int{0}},
		{"a loan whose return leads to a sight", seen(register([]int{0}, loan(0, 0, 1, to(2, 4)), back(0, 1, 0, to(4, 6))), sight(0, 1, 2), sight(0, 1, 5), sight(0, 0, 4)), noEntry, []int{3}},
	}
}

func TestP5_2Explain(t *testing.T) {
	for _, x := range allContradicted() {
		truth, e := sheet.Explain(x.r)
		if len(x.leave) == 0 && (e != api.OK || !sheet.ProveTruth(x.r, truth)) {
			t.Errorf("Explain, %s: %v, %v", x.name, truth, e)
		}
		if len(x.leave) > 0 && (e != api.ErrFail || truth != nil) {
			t.Errorf("Explain, %s: %v, %v", x.name, truth, e)
		}
	}
}

// TestP5_2OneTruth: registers with one truth only.
func TestP5_2OneTruth(t *testing.T) {
	for _, x := range []struct {
		r    sheet.Register
		want []int
	}{
		{register([]int{0}), nil},
		{register([]int{0}, pass(0, 0, 1, one(0))), []int{0}},
		{register([]int{0}, pass(0, 0, 1, one(9))), []int{9}},
		{seen(theExample(), sight(0, 0, 2), sight(0, 1, 3), sight(1, 1, 4)), []int{3, 4, 5}},
		{seen(theExample(), sight(0, 0, 2), sight(0, 2, 3), sight(1, 0, 3)), []int{3, 3, 3}},
		{register([]int{0}, pass(0, 1, 2, to(1, 2)), pass(0, 2, 1, to(2, 9)), pass(0, 0, 1, to(1, 9)), pass(0, 1, 0, to(0, 2))), []int{2, 2, 1, 2}},
	} {
		if truth, e := sheet.Explain(x.r); !slices.Equal(truth, x.want) || e != api.OK {
			t.Errorf("Explain of %v: %v, %v; want %v", x.r, truth, e, x.want)
		}
	}
}

func TestP5_3Holders(t *testing.T) {
	for _, x := range []struct {
		name        string
		r           sheet.Register
		number, day int
		want        []int
	}{
		{"the example", theExample(), 0, 0, []int{0}},
		{"the example", theExample(), 0, 1, []int{0, 1}},
		{"the example", theExample(), 0, 2, []int{0, 1, 2}},
		{"the example", theExample(), 0, 3, []int{1, 2}},
		{"the example", theExample(), 0, 4, []int{2}},
		{"the example", theExample(), 0, 9, []int{2}},
		{"the example", theExample(), 1, 2, []int{1}},
		{"the example", theExample(), 1, 3, []int{0, 1}},
		{"the example", theExample(), 1, 5, []int{0}},
		{"the example with the sight", seen(theExample(), sight(0, 0, 2)), 0, 1, []int{0}},
		{"the example with the sight", seen(theExample(), sight(0, 0, 2)), 0, 2, []int{0}},
		{"the example with the sight", seen(theExample(), sight(0, 0, 2)), 0, 3, []int{1, 2}},
		{"a sight of a later day", seen(theExample(), sight(0, 1, 3)), 0, 2, []int{0, 1}},
		{"a sight of another sheet", seen(swapped(), sight(1, 0, 1)), 0, 1, []int{1}},
		{"no entries", register([]int{2}), 0, 5, []int{2}},
		{"the first day", register([]int{0}, pass(0, 0, 1, to(0, 1))), 0, 0, []int{0, 1}},
		{"the last day", register([]int{0}, pass(0, 0, 1, to(8, 9))), 0, 8, []int{0, 1}},
		{"after the last day", register([]int{0}, pass(0, 0, 1, to(8, 9))), 0, 9, []int{1}},
		{"there and back", register([]int{0}, pass(0, 0, 1, to(2, 4)), pass(0, 1, 0, to(2, 4))), 0, 3, []int{0, 1}},
		{"there and back, at last", register([]int{0}, pass(0, 0, 1, to(2, 4)), pass(0, 1, 0, to(2, 4))), 0, 4, []int{0}},
		{"in one of two orders", register([]int{0}, pass(0, 0, 1, always()), pass(0, 0, 2, always()), pass(0, 2, 0, always())), 0, 9, []int{1}},
		{"in one of two orders, a day before", register([]int{0}, pass(0, 0, 1, always()), pass(0, 0, 2, always()), pass(0, 2, 0, always())), 0, 8, []int{0, 1}},
		{"in one of two orders, two days before", register([]int{0}, pass(0, 0, 1, always()), pass(0, 0, 2, always()), pass(0, 2, 0, always())), 0, 7, []int{0, 1, 2}},
	} {
		if l, e := sheet.Holders(x.r, x.number, x.day); !slices.Equal(l, x.want) || e != api.OK {
			t.Errorf("Holders, %s, of %d on %d: %v, %v; want %v", x.name, x.number, x.day, l, e, x.want)
		}
	}
}

func TestP5_3Surely(t *testing.T) {
	for _, x := range []struct {
		name       string
		r          sheet.Register
		house, day int
		want       []int
	}{
		{"the example", theExample(), 2, 4, []int{0}},
		{"the example", theExample(), 2, 3, nil},
		{"the example", theExample(), 0, 0, []int{0}},
		{"the example", theExample(), 0, 1, nil},
		{"the example", theExample(), 1, 0, []int{1}},
		{"the example", theExample(), 1, 2, []int{1}},
		{"the example", theExample(), 1, 3, nil},
		{"the example", theExample(), 0, 9, []int{1}},
		{"a sight", seen(theExample(), sight(0, 0, 2)), 0, 2, []int{0}},
		{"a sight of another sheet", seen(swapped(), sight(1, 0, 1)), 1, 1, []int{0}},
		{"two loans, before", twoLoans(), 0, 0, []int{0, 1}},
		{"two loans, one made", twoLoans(), 1, 2, []int{0}},
		{"two loans, both made", twoLoans(), 1, 3, []int{0, 1}},
		{"several sheets in increasing order", register([]int{2, 0, 2, 2}), 2, 7, []int{0, 2, 3}},
	} {
		if l, e := sheet.Surely(x.r, x.house, x.day); !slices.Equal(l, x.want) || e != api.OK {
			t.Errorf("Surely, %s, of %d on %d: %v, %v; want %v", x.name, x.house, x.day, l, e, x.want)
		}
	}
}

func TestP5_4InHand(t *testing.T) {
	for _, x := range []struct {
		name       string
		r          sheet.Register
		house, day int
		want       sheet.Range
	}{
		{"the example", theExample(), 1, 3, to(0, 2)},
		{"the example", theExample(), 1, 0, one(1)},
		{"the example", theExample(), 1, 1, to(1, 2)},
		{"the example", theExample(), 0, 3, to(0, 1)},
		{"the example", theExample(), 2, 4, one(1)},
		{"the example", theExample(), 1, 9, one(0)},
		{"a sight", seen(theExample(), sight(0, 1, 3)), 1, 3, to(1, 2)},
		{"two loans", twoLoans(), 1, 0, one(0)},
		{"two loans", twoLoans(), 1, 1, to(0, 1)},
		{"two loans", twoLoans(), 1, 2, to(1, 2)},
		{"two loans", twoLoans(), 0, 3, one(0)},
		{"one for the other", swapped(), 1, 2, to(1, 2)},
		{"one for the other", swapped(), 0, 2, to(0, 1)},
		{"one for the other, at last", swapped(), 1, 3, one(1)},
		{"one for the other, with a sight", seen(swapped(), sight(1, 0, 1)), 1, 1, one(1)},
		{"fewer sheets than there may be", register([]int{1}), 0, 4, one(0)},
		{"most sheets", register([]int{2, 2, 2, 2}), 2, 4, one(4)},
	} {
		if got, e := sheet.InHand(x.r, x.house, x.day); got != x.want || e != api.OK {
			t.Errorf("InHand, %s, of %d on %d: %v, %v; want %v", x.name, x.house, x.day, got, e, x.want)
		}
	}
}

func TestP5_4Owed(t *testing.T) {
	both := register([]int{0, 1}, loan(0, 0, 1, one(1)), loan(1, 1, 0, to(2, 3)))
	for _, x := range []struct {
		name                  string
		r                     sheet.Register
		lender, borrower, day int
		want                  sheet.Range
	}{
		{"the example", theExample(), 0, 1, 0, one(0)},
		{"the example", theExample(), 0, 1, 3, to(0, 1)},
		{"the example", theExample(), 0, 1, 4, to(0, 1)},
		{"the example", theExample(), 0, 1, 5, one(0)},
		{"the example, the other way", theExample(), 1, 0, 3, one(0)},
		{"the example, another house", theExample(), 1, 2, 3, one(0)},
		{"the example, one house", theExample(), 1, 1, 3, one(0)},
		{"a sight", seen(theExample(), sight(1, 1, 4), sight(0, 1, 3)), 0, 1, 4, one(1)},
		{"two loans", twoLoans(), 0, 1, 1, to(0, 1)},
		{"two loans", twoLoans(), 0, 1, 2, to(1, 2)},
		{"two loans", twoLoans(), 0, 1, 9, one(2)},
		{"two loans, the other way", twoLoans(), 1, 0, 9, one(0)},
		{"loans of both", both, 0, 1, 3, one(1)},
		{"loans of both", both, 1, 0, 2, to(0, 1)},
		{"one for the other", swapped(), 0, 1, 2, to(0, 1)},
		{"one for the other, with a sight", seen(swapped(), sight(1, 0, 1)), 0, 1, 1, one(0)},
		{"a pass is no loan", register([]int{0}, pass(0, 0, 1, one(1))), 0, 1, 2, one(0)},
		{"a pass is no return", register([]int{0}, loan(0, 0, 1, one(1)), pass(0, 1, 0, one(2))), 0, 1, 3, one(1)},
	} {
		if got, e := sheet.Owed(x.r, x.lender, x.borrower, x.day); got != x.want || e != api.OK {
			t.Errorf("Owed, %s, %d to %d on %d: %v, %v; want %v", x.name, x.lender, x.borrower, x.day, got, e, x.want)
		}
	}
}

func TestP5_5First(t *testing.T) {
	for _, x := range allContradicted() {
		first, want := x.first, api.OK
		if first == noEntry {
			first, want = 0, api.ErrNone
		}
		if n, e := sheet.First(x.r); n != first || e != want {
			t.Errorf("First, %s: %d, %v; want %d, %v", x.name, n, e, first, want)
		}
	}
}

func TestP5_5Leave(t *testing.T) {
	for _, x := range allContradicted() {
		if l, e := sheet.Leave(x.r); !slices.Equal(l, x.leave) || e != api.OK {
			t.Errorf("Leave, %s: %v, %v; want %v", x.name, l, e, x.leave)
		}
	}
}
