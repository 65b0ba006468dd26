package short_test

import (
	"math/rand"
	"reflect"
	"slices"
	"testing"

	"contango/api"
	"contango/sheet"
	"contango/short"
)

// farthest and lowest are the ends of all ints.
const (
	farthest = 1<<63 - 1
	lowest   = -1 << 63
)

// change is one of the ledger of the example, after which it has the error e.
type change struct {
	name   string
	change func(l *short.Ledger)
	e      api.Errno
}

// validChanges are those after which the ledger is still valid.
func validChanges() []change {
	return []change{
		{"the first day", func(l *short.Ledger) { l.Day = 0 }, api.OK},
		{"the last day", func(l *short.Ledger) { l.Day = api.MaxSheetDay }, api.OK},
		{"nobody lends", func(l *short.Ledger) { l.Lends = lent(3) }, api.OK},
		{"all lend", func(l *short.Ledger) { l.Lends = lent(3, 0, 1, 2) }, api.OK},
		{"no dues", func(l *short.Ledger) { l.Dues = nil }, api.OK},
		{"most dues", func(l *short.Ledger) { l.Dues = slices.Repeat(l.Dues, 3) }, api.OK},
		{"the last house owes", func(l *short.Ledger) { l.Dues[0].From = 2 }, api.OK},
		{"the last house is owed", func(l *short.Ledger) { l.Dues[0].To = 2 }, api.OK},
		{"the first house is owed", func(l *short.Ledger) { l.Dues[1].To = 0 }, api.OK},
		{"the least number", func(l *short.Ledger) { l.Dues[1].Number = 1 }, api.OK},
		{"the greatest number", func(l *short.Ledger) { l.Dues[1].Number = api.MaxShortNumber }, api.OK},
		{"one due twice", func(l *short.Ledger) { l.Dues[1] = l.Dues[0] }, api.OK},
		{"more than there is", func(l *short.Ledger) { l.Register.Start, l.Register.Entries = row(0), nil }, api.OK},
		{"most houses", func(l *short.Ledger) { l.Register.Houses, l.Lends = 4, lent(4, 3) }, api.OK},
		{"one house", func(l *short.Ledger) { *l = still(row(0), lent(1)) }, api.OK},
		{"a register that contradicts itself", func(l *short.Ledger) { *l = contradicted(*l) }, api.OK},
	}
}

// ofRegister are those after which the register is not valid.
func ofRegister() []change {
	return []change{
		{"too many houses", func(l *short.Ledger) { l.Register.Houses = 5 }, api.ErrLimit},
		{"far too many houses", func(l *short.Ledger) { l.Register.Houses = farthest }, api.ErrLimit},
		{"too many sheets", func(l *short.Ledger) { l.Register.Start = make([]int, 5) }, api.ErrLimit},
		{"too many entries", func(l *short.Ledger) { l.Register.Entries = make([]sheet.Entry, 7) }, api.ErrLimit},
		{"too many sights", func(l *short.Ledger) { l.Register.Sights = make([]sheet.Sight, 5) }, api.ErrLimit},
		{"no register", func(l *short.Ledger) { l.Register = sheet.Register{} }, api.ErrArg},
		{"no houses", func(l *short.Ledger) { l.Register.Houses = 0 }, api.ErrArg},
		{"houses below 0", func(l *short.Ledger) { l.Register.Houses = lowest }, api.ErrArg},
		{"too few houses", func(l *short.Ledger) { l.Register.Houses = 2 }, api.ErrArg},
		{"no sheets", func(l *short.Ledger) { l.Register.Start = nil }, api.ErrArg},
		{"a sheet in no such house", func(l *short.Ledger) { l.Register.Start = row(0, 3) }, api.ErrArg},
		{"an entry that is not valid", func(l *short.Ledger) { l.Register.Entries[1].Kind = 3 }, api.ErrArg},
		{"an entry after the last day", func(l *short.Ledger) { l.Register.Entries[1].Day.Hi = 10 }, api.ErrArg},
		{"a sight that is not valid", func(l *short.Ledger) { l.Register.Sights = []sheet.Sight{{Sheet: 2}} }, api.ErrArg},
	}
}

// tooMany are those after which there are too many dues.
func tooMany() []change {
	return []change{
		{"too many dues", func(l *short.Ledger) { l.Dues = slices.Repeat([]short.Due{due(0, 1, 1)}, 7) }, api.ErrLimit},
		{"too many dues, not valid", func(l *short.Ledger) { l.Dues = make([]short.Due, 1000) }, api.ErrLimit},
	}
}

// notValid are those after which the ledger is not valid otherwise.
func notValid() []change {
	return []change{
		{"a right sight", func(l *short.Ledger) { l.Register.Sights = []sheet.Sight{{Sheet: 0, House: 0, Day: 0}} }, api.ErrArg},
		{"a wrong sight", func(l *short.Ledger) { l.Register.Sights = []sheet.Sight{{Sheet: 0, House: 2, Day: 0}} }, api.ErrArg},
		{"most sights", func(l *short.Ledger) { l.Register.Sights = make([]sheet.Sight, 4) }, api.ErrArg},
		{"a day below 0", func(l *short.Ledger) { l.Day = -1 }, api.ErrArg},
		{"a day far below 0", func(l *short.Ledger) { l.Day = lowest }, api.ErrArg},
		{"a day after the last one", func(l *short.Ledger) { l.Day = 10 }, api.ErrArg},
		{"a day far after the last one", func(l *short.Ledger) { l.Day = farthest }, api.ErrArg},
		{"nothing of who lends", func(l *short.Ledger) { l.Lends = nil }, api.ErrArg},
		{"one too few for who lends", func(l *short.Ledger) { l.Lends = lent(2) }, api.ErrArg},
		{"one too many for who lends", func(l *short.Ledger) { l.Lends = lent(4) }, api.ErrArg},
		{"no such house owes", func(l *short.Ledger) { l.Dues[0].From = 3 }, api.ErrArg},
		{"a house below 0 owes", func(l *short.Ledger) { l.Dues[1].From = -1 }, api.ErrArg},
		{"a house far away owes", func(l *short.Ledger) { l.Dues[1].From = farthest }, api.ErrArg},
		{"no such house is owed", func(l *short.Ledger) { l.Dues[1].To = 3 }, api.ErrArg},
		{"a house below 0 is owed", func(l *short.Ledger) { l.Dues[0].To = -1 }, api.ErrArg},
		{"a house far away is owed", func(l *short.Ledger) { l.Dues[0].To = lowest }, api.ErrArg},
		{"a house owes to itself", func(l *short.Ledger) { l.Dues[1].To = 1 }, api.ErrArg},
		{"no sheets are due", func(l *short.Ledger) { l.Dues[0].Number = 0 }, api.ErrArg},
		{"a number below 0 is due", func(l *short.Ledger) { l.Dues[0].Number = lowest }, api.ErrArg},
		{"too many sheets are due", func(l *short.Ledger) { l.Dues[1].Number = 5 }, api.ErrArg},
		{"far too many sheets are due", func(l *short.Ledger) { l.Dues[1].Number = farthest }, api.ErrArg},
		{"a due of nothing", func(l *short.Ledger) { l.Dues = append(l.Dues, short.Due{}) }, api.ErrArg},
	}
}

// wrongChanges are all those after which it is not valid.
func wrongChanges() []change { return slices.Concat(ofRegister(), tooMany(), notValid()) }

// result is what a call returned, and its error.
type result struct {
	call  string
	value any
	e     api.Errno
}

// callAll calls every function that has an error.
func callAll(l short.Ledger, hand []int) []result {
	list, e1 := short.Hands(l)
	deliveries, bought, e2 := short.Best(l, hand)
	buyIns, e3 := short.BuyIns(l)
	verdicts, e4 := short.Verdicts(l)
	houses, e5 := short.Enough(l)
	return []result{
		{"CheckLedger", nil, short.CheckLedger(l)},
		{"Hands", list, e1}, {"Best", deliveries, e2}, {"Best", bought, e2},
		{"BuyIns", buyIns, e3}, {"Verdicts", verdicts, e4}, {"Enough", houses, e5},
	}
}

// isZero reports whether a result is the zero value of its type, or an empty list.
func isZero(x any) bool {
	v := reflect.ValueOf(x)
	return !v.IsValid() || v.IsZero() || v.Kind() == reflect.Slice && v.Len() == 0
}

// TestR1Ledger: a ledger that is not valid has its error in each call, before
// those of all else; no other result; and no proof.
func TestR1Ledger(t *testing.T) {
	for _, x := range wrongChanges() {
		l := theExample()
		x.change(&l)
		for _, hand := range [][]int{{0, 1, 1}, {0, 5, 0}, nil, make([]int, 5)} {
			for _, got := range callAll(l, hand) {
				if got.e != x.e || !isZero(got.value) {
					t.Errorf("%s, %s: %v, %v; want %v", got.call, x.name, got.value, got.e, x.e)
				}
			}
			isProved := short.ProveDeliveries(l, hand, make([]int, len(l.Dues)), farthest)
			if isProved || short.ProveDeliveries(l, hand, row(0, 0), 3) || short.ProveDeliveries(l, hand, nil, 3) {
				t.Errorf("ProveDeliveries, %s", x.name)
			}
		}
	}
}

// TestR1First: what is wrong with the register counts first, then that there are
// too many dues, then all else.
func TestR1First(t *testing.T) {
	for _, x := range wrongChanges() {
		for _, y := range slices.Concat(tooMany(), notValid()) {
			l := theExample()
			y.change(&l)
			x.change(&l)
			want := x.e
			if e := sheet.CheckRegister(l.Register); e != api.OK {
				want = e
			} else if len(l.Dues) > api.MaxShortDues {
				want = api.ErrLimit
			}
			if e := short.CheckLedger(l); e != want {
				t.Errorf("CheckLedger, %s and %s: %v; want %v", y.name, x.name, e, want)
			}
		}
	}
}

// TestR1Order: what each call asks for beside the ledger.
func TestR1Order(t *testing.T) {
	right, wrong := row(0, 1, 1), row(0, 1, 5)
	tooLittle := owing(still(row(0), lent(3)), due(1, 0, 2))
	failed := map[string]api.Errno{"Hands": api.ErrFail, "BuyIns": api.ErrFail, "Verdicts": api.ErrFail, "Enough": api.ErrFail}
	failedWithout := map[string]api.Errno{"Best": api.ErrRange, "Hands": api.ErrFail, "BuyIns": api.ErrFail, "Verdicts": api.ErrFail, "Enough": api.ErrFail}
	for _, x := range []struct {
		name string
		l    short.Ledger
		hand []int
		want map[string]api.Errno
	}{
		{"all right", theExample(), right, nil},
		{"no hand", theExample(), wrong, map[string]api.Errno{"Best": api.ErrRange}},
		{"not enough", tooLittle, right, map[string]api.Errno{"Enough": api.ErrShort}},
		{"not enough, and no hand", tooLittle, wrong, map[string]api.Errno{"Enough": api.ErrShort, "Best": api.ErrRange}},
		{"a contradiction", contradicted(theExample()), right, failed},
		{"a contradiction, and no hand", contradicted(theExample()), wrong, failedWithout},
		{"a contradiction, and not enough", contradicted(tooLittle), right, failed},
		{"a contradiction, and no dues", owing(contradicted(theExample())), right, failed},
	} {
		for _, got := range callAll(x.l, x.hand) {
			if got.e != x.want[got.call] || got.e != api.OK && !isZero(got.value) {
				t.Errorf("%s, %s: %v, %v; want %v", got.call, x.name, got.value, got.e, x.want[got.call])
			}
		}
	}
}

// TestR3Empty: nil and a list without elements are the same.
func TestR3Empty(t *testing.T) {
	for _, list := range [][]int{nil, {}} {
		for _, dues := range [][]short.Due{nil, {}} {
			l := owing(theExample(), dues...)
			l.Register.Entries, l.Register.Sights = []sheet.Entry{}, []sheet.Sight{}
			for _, got := range callAll(l, row(4, 0, 0)) {
				isOfHands := got.call == "Hands" && reflect.DeepEqual(got.value, [][]int{{1, 1, 0}})
				if got.e != api.OK || !isOfHands && !isZero(got.value) {
					t.Errorf("%s of no dues: %v, %v", got.call, got.value, got.e)
				}
			}
			if !short.ProveDeliveries(l, row(4, 0, 0), list, 0) || short.ProveDeliveries(l, list, list, 0) {
				t.Errorf("ProveDeliveries of no dues, %v", list)
			}
		}
		if short.ProveDeliveries(theExample(), row(0, 1, 1), list, 3) {
			t.Errorf("ProveDeliveries, %v", list)
		}
	}
	l := theExample()
	l.Register.Sights = []sheet.Sight{}
	if e := short.CheckLedger(l); e != api.OK {
		t.Errorf("CheckLedger with an empty list of sights: %v", e)
	}
}

// fill writes to all memory of a list, and beyond its end.
func fill(list []int) {
	list = list[:cap(list)]
	for i := range list {
		list[i] = -7
	}
}

// TestR4Memory: arguments are not written to, results share no memory.
func TestR4Memory(t *testing.T) {
	for _, l := range ledgers(200) {
		mine, hand := clone(l), make([]int, l.Register.Houses)
		hand[0] = 2
		given := slices.Clone(hand)
		kept, again := callAll(mine, hand), callAll(mine, hand)
		for i, got := range again {
			if list, ok := got.value.([]int); ok {
				fill(list)
			}
			list, _ := got.value.([][]int)
			for n := range list {
				fill(list[n])
				if !reflect.DeepEqual(list[n+1:], kept[i].value.([][]int)[n+1:]) {
					t.Fatalf("Hands of %v has become %v with the hand %d", l, list, n)
				}
			}
			if !reflect.DeepEqual(again[i+1:], kept[i+1:]) || !reflect.DeepEqual(mine, l) || !slices.Equal(hand, given) {
				t.Fatalf("%s of %v: written to, %v has become %v", got.call, l, mine, again)
			}
		}
		if !reflect.DeepEqual(kept, callAll(mine, hand)) {
			t.Fatalf("%v, %v: not the same again", mine, hand)
		}
		deliveries, bought := best(t, mine, hand)
		same := slices.Clone(deliveries)
		isProved := short.ProveDeliveries(mine, hand, deliveries, bought)
		if !isProved || !slices.Equal(deliveries, same) || !reflect.DeepEqual(mine, l) || !slices.Equal(hand, given) {
			t.Fatalf("ProveDeliveries of %v, %v: %v, %v", mine, hand, isProved, deliveries)
		}
	}
}

// TestR4Spare: memory beyond the ends of lists is not written to.
func TestR4Spare(t *testing.T) {
	l := mayMove()
	l.Register.Start = append(make([]int, 0, 9), l.Register.Start...)
	l.Register.Sights = make([]sheet.Sight, 0, 9)
	l.Lends = append(make([]bool, 0, 9), l.Lends...)
	l.Dues = append(make([]short.Due, 0, 9), l.Dues...)
	hand := append(make([]int, 0, 9), 1, 0, 0)
	callAll(l, hand)
	short.ProveDeliveries(l, hand, hand[:2], 2)
	isClean := slices.Max(l.Register.Start[1:9]) == 0 && slices.Max(hand[3:9]) == 0 && !slices.Contains(l.Lends[3:9], true)
	for i, s := range l.Register.Sights[:9] {
		isClean = isClean && s == sheet.Sight{} && (i < 2 || l.Dues[:9][i] == short.Due{})
	}
	if !isClean {
		t.Errorf("%v and %v: written to", l, hand)
	}
}

// anyNumber returns numbers within limits, near them, and far away.
func anyNumber(r *rand.Rand) int {
	return pick(r, 0, 0, 0, 1, 1, 1, 2, 2, 2, 3, 4, 5, 9, 10, -1, farthest, lowest, r.Int(), -r.Int())
}

// anyList returns a list of any numbers.
func anyList(r *rand.Rand) []int {
	var list []int
	for range pick(r, 0, 1, 2, 2, 3, 3, 4, 4, 6, 7) {
		list = append(list, anyNumber(r))
	}
	return list
}

// anyLedger returns a ledger that is often not valid.
func anyLedger(r *rand.Rand) short.Ledger {
	l := clone(pick(r, someLedger(r, 2), someLedger(r, 4), theExample(), short.Ledger{}))
	l.Day = pick(r, l.Day, l.Day, l.Day, anyNumber(r))
	for range pick(r, 0, 0, 0, 0, 1, 1, 7) {
		l.Dues = append(l.Dues, due(anyNumber(r), anyNumber(r), anyNumber(r)))
	}
	switch r.Intn(15) {
	case 0:
		l.Register.Houses = anyNumber(r)
	case 1:
		l.Register.Start = anyList(r)
	case 2:
		l.Lends = lent(r.Intn(9))
	case 3:
		l.Register.Sights = append(l.Register.Sights, sheet.Sight{Sheet: anyNumber(r), House: anyNumber(r), Day: anyNumber(r)})
	case 4:
		l.Register.Entries = append(l.Register.Entries, entry(anyNumber(r), anyNumber(r), anyNumber(r), anyNumber(r), anyNumber(r), anyNumber(r)))
	}
	return l
}

// TestP1Returns: no call panics, and each has no result with its error, whatever
// its arguments are.
func TestP1Returns(t *testing.T) {
	r := rand.New(rand.NewSource(1))
	is := map[api.Errno]int{}
	for range 5000 {
		l, hand := anyLedger(r), anyList(r)
		e := short.CheckLedger(l)
		is[e]++
		for _, x := range callAll(l, hand) {
			if x.e != api.OK && !isZero(x.value) || e != api.OK && x.e != e {
				t.Fatalf("%s of %v, %v: %v, %v", x.call, l, hand, x.value, x.e)
			}
		}
		if short.ProveDeliveries(l, hand, anyList(r), anyNumber(r)) && e != api.OK {
			t.Fatalf("ProveDeliveries of %v, %v", l, hand)
		}
	}
	if is[api.OK] < 1000 || is[api.ErrArg] < 1000 || is[api.ErrLimit] < 300 {
		t.Errorf("errors: %v", is)
	}
}

// TestP1Widest: as much as there may be of everything, on any days.
func TestP1Widest(t *testing.T) {
	l := still(row(0, 0, 0, 0), lent(4), due(3, 0, 4), due(3, 0, 4), due(3, 1, 4), due(3, 2, 4), due(3, 2, 4), due(3, 1, 4))
	for number := range 3 {
		l.Register.Entries = append(l.Register.Entries, entry(sheet.Pass, number, 0, 1, 0, 9), entry(sheet.Pass, number, 1, 2, 0, 9))
	}
	list := hands(t, l)
	// The sheet 3 stays in the house 0; the others are in 0, 1 or 2.
	if len(list) != 10 || !slices.Equal(list[0], row(1, 0, 3, 0)) || !slices.Equal(list[9], row(4, 0, 0, 0)) {
		t.Errorf("Hands: %v", list)
	}
	if got := verdicts(t, l); buyIns(t, l) != to(24, 24) || !slices.Equal(got, slices.Repeat(row(short.Never), 6)) {
		t.Errorf("BuyIns, Verdicts: %v, %v", buyIns(t, l), got)
	}
	if set, ok := enough(t, l); ok {
		t.Errorf("Enough: %v", set)
	}
	long := make([]int, 1<<20)
	if short.ProveDeliveries(l, long, long, farthest) || short.ProveDeliveries(l, row(0, 0, 0, 0), long, farthest) {
		t.Error("ProveDeliveries with long lists")
	}
}
