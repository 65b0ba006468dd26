package short_test

import (
	"slices"
	"testing"

	"contango/api"
	"contango/sheet"
	"contango/short"
)

// to returns the range with these ends.
func to(low, high int) short.Range { return short.Range{Lo: low, Hi: high} }

// row returns a list of numbers.
func row(list ...int) []int { return list }

// due returns a due.
func due(from, to, number int) short.Due { return short.Due{From: from, To: to, Number: number} }

// entry returns an entry of the register, on a day from low to high.
func entry(kind, number, from, to, low, high int) sheet.Entry {
	return sheet.Entry{Kind: kind, Sheet: number, From: from, To: to, Day: sheet.Range{Lo: low, Hi: high}}
}

// lent returns which of the houses lend: these.
func lent(houses int, lenders ...int) []bool {
	list := make([]bool, houses)
	for _, house := range lenders {
		list[house] = true
	}
	return list
}

// theExample is the ledger of the chapter's examples.
func theExample() short.Ledger { return onDay(3, lent(3, 2), due(0, 1, 1), due(1, 2, 2)) }

// onDay returns a ledger with the register of the chapter's examples.
func onDay(day int, lends []bool, dues ...short.Due) short.Ledger {
	g := sheet.Register{Houses: 3, Start: row(0, 1), Entries: []sheet.Entry{
		entry(sheet.Loan, 0, 0, 1, 1, 3), entry(sheet.Pass, 0, 1, 2, 2, 4), entry(sheet.Return, 1, 1, 0, 3, 5),
	}}
	return short.Ledger{Register: g, Day: day, Lends: lends, Dues: dues}
}

// moving returns a ledger on the day 4, with entries.
func moving(start []int, lends []bool, entries ...sheet.Entry) short.Ledger {
	return short.Ledger{Register: sheet.Register{Houses: len(lends), Start: start, Entries: entries}, Day: 4, Lends: lends}
}

// still returns a ledger whose sheets stay where they are.
func still(start []int, lends []bool, dues ...short.Due) short.Ledger {
	l := moving(start, lends)
	l.Dues = dues
	return l
}

// owing returns the ledger with these dues.
func owing(l short.Ledger, dues ...short.Due) short.Ledger {
	l.Dues = dues
	return l
}

// contradicted returns the ledger whose register contradicts itself.
func contradicted(l short.Ledger) short.Ledger {
	wrong := entry(sheet.Return, 0, 1, 0, 0, 9)
	l.Register.Entries = []sheet.Entry{wrong}
	return l
}

// mayMove has a sheet that moves from the house 0 to the house 1 on the Day or
// not, and a due of it from each of them to the house 2.
func mayMove(lenders ...int) short.Ledger {
	l := moving(row(0), lent(3, lenders...), entry(sheet.Pass, 0, 0, 1, 4, 5))
	return owing(l, due(0, 2, 1), due(1, 2, 1))
}

func TestP8_1CheckLedger(t *testing.T) {
	if e := short.CheckLedger(theExample()); e != api.OK {
		t.Errorf("CheckLedger of the example: %v", e)
	}
	for _, x := range append(validChanges(), wrongChanges()...) {
		l := theExample()
		x.change(&l)
		if e := short.CheckLedger(l); e != x.e {
			t.Errorf("CheckLedger, %s: %v; want %v", x.name, e, x.e)
		}
	}
}

func TestP8_1Hands(t *testing.T) {
	swapped := []sheet.Entry{entry(sheet.Loan, 0, 0, 1, 3, 5), entry(sheet.Return, 1, 1, 0, 3, 5)}
	apart := []sheet.Entry{entry(sheet.Pass, 0, 0, 1, 3, 5), entry(sheet.Pass, 1, 1, 0, 3, 5)}
	chain := []sheet.Entry{entry(sheet.Pass, 0, 0, 1, 0, 9), entry(sheet.Pass, 0, 1, 2, 0, 9), entry(sheet.Pass, 0, 2, 3, 0, 9)}
	for _, x := range []struct {
		name string
		l    short.Ledger
		want [][]int
	}{
		{"the example", theExample(), [][]int{{0, 1, 1}, {0, 2, 0}, {1, 0, 1}, {1, 1, 0}}},
		{"the first day", onDay(0, lent(3)), [][]int{{1, 1, 0}}},
		{"the end of the first day of an entry", onDay(1, lent(3)), [][]int{{0, 2, 0}, {1, 1, 0}}},
		{"the end of the last day of an entry", onDay(4, lent(3)), [][]int{{0, 1, 1}, {1, 0, 1}}},
		{"the last day", onDay(9, lent(3)), [][]int{{1, 0, 1}}},
		{"one house", still(row(0, 0), lent(1)), [][]int{{2}}},
		{"a house without sheets", still(row(2, 2, 0, 2), lent(4)), [][]int{{1, 0, 3, 0}}},
		{"a sheet that may have moved", mayMove(), [][]int{{0, 1, 0}, {1, 0, 0}}},
		{"a sheet that may have moved on", moving(row(0), lent(4), chain...), [][]int{{0, 0, 0, 1}, {0, 0, 1, 0}, {0, 1, 0, 0}, {1, 0, 0, 0}}},
		{"returned only after it was lent", moving(row(0, 1), lent(2), swapped...), [][]int{{0, 2}, {1, 1}}},
		{"the same, but not lent", moving(row(0, 1), lent(2), apart...), [][]int{{0, 2}, {1, 1}, {2, 0}}},
		{"dues and who lends play no part", owing(mayMove(0, 1), due(2, 0, 4)), [][]int{{0, 1, 0}, {1, 0, 0}}},
	} {
		got, e := short.Hands(x.l)
		if e != api.OK || !slices.EqualFunc(got, x.want, slices.Equal) {
			t.Errorf("Hands, %s: %v, %v; want %v", x.name, got, e, x.want)
		}
	}
	if got, e := short.Hands(contradicted(theExample())); len(got) > 0 || e != api.ErrFail {
		t.Errorf("Hands of a register that contradicts itself: %v, %v", got, e)
	}
}

// four returns a ledger of four houses, with one sheet in the house 0.
func four(lends []bool, dues ...short.Due) short.Ledger { return still(row(0), lends, dues...) }

// ringOf returns dues of the same number from each of three houses to the next one.
func ringOf(number int) []short.Due {
	return []short.Due{due(0, 1, number), due(1, 2, number), due(2, 0, number)}
}

// tried is a ledger with a hand, and its best deliveries.
type tried struct {
	name   string
	l      short.Ledger
	hand   []int
	best   []int
	bought int
}

func allTried() []tried {
	pair := []short.Due{due(0, 1, 2), due(0, 2, 2)}
	chain := []short.Due{due(0, 1, 3), due(1, 2, 3), due(2, 3, 3)}
	return []tried{
		{"the example", theExample(), row(0, 2, 0), row(0, 2), 1},
		{"the example, 2 lends to 0", theExample(), row(0, 1, 1), row(1, 2), 0},
		{"the example, 2 lends to 1", theExample(), row(1, 0, 1), row(1, 2), 0},
		{"nothing in hand", theExample(), row(0, 0, 0), row(0, 0), 3},
		{"as much as can be in hand", theExample(), row(4, 4, 4), row(1, 2), 0},
		{"no dues", four(lent(4)), row(0, 4, 0, 0), nil, 0},
		{"one house", still(row(0), lent(1)), row(4), nil, 0},
		{"what is in hand", four(lent(4), due(0, 1, 3)), row(2, 0, 0, 0), row(2), 1},
		{"nobody lends", four(lent(4), due(0, 1, 3)), row(0, 4, 4, 4), row(0), 3},
		{"the buyer lends", four(lent(4, 1), due(0, 1, 3)), row(0, 2, 0, 0), row(2), 1},
		{"the buyer lends nothing of what comes in", four(lent(4, 1), due(0, 1, 3)), row(0, 0, 0, 0), row(0), 3},
		{"another one lends", four(lent(4, 3), due(0, 1, 3)), row(1, 0, 0, 1), row(2), 1},
		{"several lend", four(lent(4, 1, 2, 3), due(0, 1, 4)), row(0, 1, 1, 2), row(4), 0},
		{"the seller lends to others, but not to itself", four(lent(4, 0), due(0, 1, 3)), row(2, 0, 0, 0), row(2), 1},
		{"who lends delivers first", four(lent(4, 0), due(0, 1, 2), due(2, 1, 2)), row(3, 0, 0, 0), row(2, 1), 1},
		{"who lends and lacks can lend nothing", four(lent(4, 0), due(0, 1, 4), due(2, 1, 1)), row(3, 0, 0, 0), row(3, 0), 2},
		{"what comes in is handed on", four(lent(4), chain...), row(3, 0, 0, 0), row(3, 3, 3), 0},
		{"what comes in, and what is in hand", four(lent(4), chain...), row(1, 1, 1, 0), row(1, 2, 3), 3},
		{"what comes in is handed on, what was in hand is lent", four(lent(4, 1), due(0, 1, 2), due(1, 2, 2), due(3, 2, 2)), row(2, 2, 0, 0), row(2, 2, 2), 0},
		{"the greater at the first index", four(lent(4), pair...), row(3, 0, 0, 0), row(2, 1), 1},
		{"the greater at the first index, of two sellers", four(lent(4, 3), due(0, 2, 2), due(1, 2, 2)), row(0, 0, 0, 2), row(2, 0), 2},
		{"less counts before what is first", four(lent(4), due(0, 1, 1), due(0, 2, 1), due(2, 3, 1)), row(1, 0, 0, 0), row(0, 1, 1), 1},
		{"one due twice", four(lent(4), due(0, 1, 3), due(0, 1, 3)), row(4, 0, 0, 0), row(3, 1), 2},
		{"a ring", four(lent(4), ringOf(4)...), row(0, 0, 0, 0), row(4, 4, 4), 0},
		{"a ring, and one of other numbers", four(lent(4), due(0, 1, 4), due(1, 2, 2), due(2, 0, 3)), row(0, 0, 0, 0), row(2, 2, 2), 3},
		{"a ring, and one of other numbers with one in hand", four(lent(4), due(0, 1, 4), due(1, 2, 2), due(2, 0, 3)), row(1, 0, 1, 0), row(4, 2, 3), 0},
		{"two dues that are set off", four(lent(4), due(3, 1, 2), due(1, 3, 4)), row(0, 0, 0, 0), row(2, 2), 2},
	}
}

func TestP8_2Best(t *testing.T) {
	for _, x := range allTried() {
		got, bought, e := short.Best(x.l, x.hand)
		if !slices.Equal(got, x.best) || bought != x.bought || e != api.OK {
			t.Errorf("Best, %s: %v, %d, %v; want %v, %d", x.name, got, bought, e, x.best, x.bought)
		}
		if !short.ProveDeliveries(x.l, x.hand, x.best, x.bought) || short.ProveDeliveries(x.l, x.hand, x.best, x.bought-1) {
			t.Errorf("ProveDeliveries, %s: %v, %d", x.name, x.best, x.bought)
		}
		// The register says nothing of a hand that need not be possible.
		if x.l.Register.Houses < 2 {
			continue
		}
		got, bought, e = short.Best(contradicted(x.l), x.hand)
		if !slices.Equal(got, x.best) || bought != x.bought || e != api.OK || !short.ProveDeliveries(contradicted(x.l), x.hand, got, bought) {
			t.Errorf("Best, %s, with a register that contradicts itself: %v, %d, %v", x.name, got, bought, e)
		}
	}
}

// TestP8_2NoHand: lists that are no hands.
func TestP8_2NoHand(t *testing.T) {
	for _, hand := range [][]int{
		nil, {0}, {0, 1}, {0, 1, 1, 0}, {0, 1, -1}, {-1, 1, 1}, {5, 0, 0}, {0, 0, 5}, {1 << 62, 0, 0}, {0, -1 << 63, 0}, make([]int, 1<<20),
	} {
		got, bought, e := short.Best(theExample(), hand)
		if got != nil || bought != 0 || e != api.ErrRange {
			t.Errorf("Best with a list of %d: %v, %d, %v", len(hand), got, bought, e)
		}
		if short.ProveDeliveries(theExample(), hand, row(0, 0), 3) {
			t.Errorf("ProveDeliveries with a list of %d", len(hand))
		}
	}
}

func TestP8_2ProveDeliveries(t *testing.T) {
	for _, x := range []struct {
		name             string
		hand, deliveries []int
		bought           int
		want             bool
	}{
		{"the best ones", row(0, 2, 0), row(0, 2), 1, true},
		{"more may be bought in", row(0, 2, 0), row(0, 2), 2, true},
		{"any number may be", row(0, 2, 0), row(0, 2), 1<<63 - 1, true},
		{"less must be bought in", row(0, 2, 0), row(0, 2), 0, false},
		{"a number below 0", row(0, 2, 0), row(0, 2), -1 << 63, false},
		{"nothing is delivered", row(0, 2, 0), row(0, 0), 3, true},
		{"nothing is delivered, and less bought in", row(0, 2, 0), row(0, 0), 2, false},
		{"other deliveries", row(1, 0, 1), row(0, 1), 2, true},
		{"a house lacks one", row(0, 2, 0), row(1, 2), 3, false},
		{"a house lacks one, and another one has too many", row(0, 2, 0), row(1, 1), 3, false},
		{"all have enough", row(1, 1, 0), row(1, 2), 0, true},
		{"no hand can be with as many sheets", row(4, 4, 4), row(1, 2), 0, true},
		{"more than the due", row(4, 4, 4), row(1, 3), 3, false},
		{"more than the first due", row(4, 4, 4), row(2, 2), 3, false},
		{"below 0", row(4, 4, 4), row(-1, 2), 3, false},
		{"far below 0", row(4, 4, 4), row(1, -1<<63), 3, false},
		{"too few", row(4, 4, 4), row(1), 3, false},
		{"too many", row(4, 4, 4), row(1, 2, 0), 3, false},
		{"none", row(4, 4, 4), nil, 3, false},
	} {
		if got := short.ProveDeliveries(theExample(), x.hand, x.deliveries, x.bought); got != x.want {
			t.Errorf("ProveDeliveries, %s: %v", x.name, got)
		}
	}
}

// asked is a ledger with what is due of it.
type asked struct {
	name     string
	l        short.Ledger
	buyIns   short.Range
	verdicts []int
	enough   []int
	e        api.Errno // of Enough
}

func allAsked() []asked {
	const always, never, open = short.Always, short.Never, short.Open
	return []asked{
		{"the example", theExample(), to(0, 1), row(open, always), row(1), api.OK},
		{"the example, nobody lends", owing(onDay(3, lent(3)), theExample().Dues...), to(0, 2), row(open, open), row(1, 2), api.OK},
		{"the example, 1 lends, too", owing(onDay(3, lent(3, 1, 2)), theExample().Dues...), to(0, 0), row(always, always), nil, api.OK},
		{"no dues", onDay(3, lent(3)), to(0, 0), nil, nil, api.OK},
		{"one house", still(row(0), lent(1)), to(0, 0), nil, nil, api.OK},
		{"one sheet for one of two", four(lent(4), due(0, 1, 1), due(0, 2, 1)), to(1, 1), row(always, always), nil, api.ErrShort},
		{"a sheet here or there", mayMove(), to(1, 1), row(open, open), nil, api.ErrShort},
		{"a sheet here or there, and the house 1 lends", mayMove(1), to(1, 1), row(always, open), nil, api.ErrShort},
		{"a sheet here or there, and both lend", mayMove(0, 1), to(1, 1), row(always, always), nil, api.ErrShort},
		{"a sheet here or there for one due", owing(mayMove(), due(1, 2, 1)), to(0, 1), row(open), row(0), api.OK},
		{"a sheet here or there for the buyer", owing(mayMove(), due(2, 0, 1)), to(1, 1), row(never), row(0, 1), api.OK},
		{"the same, and one lends", owing(mayMove(1), due(2, 0, 1)), to(0, 1), row(open), row(0), api.OK},
		{"enough, but not for all of it", four(lent(4, 0), due(1, 2, 1), due(1, 3, 2)), to(2, 2), row(always, never), nil, api.ErrShort},
		{"a ring", four(lent(4), ringOf(4)...), to(0, 0), row(always, always, always), nil, api.OK},
		{"a part of a due at least", four(lent(4), due(0, 1, 2)), to(1, 1), row(never), nil, api.ErrShort},
		{"the house that has it", four(lent(4), due(1, 2, 1)), to(1, 1), row(never), row(0), api.OK},
		{"one is enough, not the first two", still(row(0, 1, 2, 2), lent(4), due(3, 0, 2)), to(2, 2), row(never), row(2), api.OK},
		{"the first two of three", still(row(0, 1, 2), lent(4), due(3, 0, 2)), to(2, 2), row(never), row(0, 1), api.OK},
		{"the first of those that do not lend", still(row(0, 1, 2), lent(4, 0), due(3, 0, 2)), to(1, 1), row(never), row(1), api.OK},
		{"all others", still(row(0, 1, 2), lent(4), due(3, 0, 3)), to(3, 3), row(never), row(0, 1, 2), api.OK},
		{"who owes lends to another one", still(row(0, 0), lent(2), due(0, 1, 1)), to(0, 0), row(always), nil, api.OK},
	}
}

func TestP8_3BuyIns(t *testing.T) {
	for _, x := range allAsked() {
		if got, e := short.BuyIns(x.l); got != x.buyIns || e != api.OK {
			t.Errorf("BuyIns, %s: %v, %v; want %v", x.name, got, e, x.buyIns)
		}
	}
}

func TestP8_4Verdicts(t *testing.T) {
	for _, x := range allAsked() {
		if got, e := short.Verdicts(x.l); !slices.Equal(got, x.verdicts) || e != api.OK {
			t.Errorf("Verdicts, %s: %v, %v; want %v", x.name, got, e, x.verdicts)
		}
	}
}

func TestP8_5Enough(t *testing.T) {
	for _, x := range allAsked() {
		if got, e := short.Enough(x.l); !slices.Equal(got, x.enough) || e != x.e {
			t.Errorf("Enough, %s: %v, %v; want %v, %v", x.name, got, e, x.enough, x.e)
		}
	}
}
