package sheet_test

import (
	"math/rand"
	"reflect"
	"slices"
	"testing"

	"contango/api"
	"contango/sheet"
)

// change is one of the register of the example, after which it has the error e.
type change struct {
	name   string
	change func(r *sheet.Register)
	e      api.Errno
}

// validChanges are those after which the register is still valid.
func validChanges() []change {
	return []change{
		{"most houses", func(r *sheet.Register) { r.Houses = api.MaxSheetHouses }, api.OK},
		{"one house", func(r *sheet.Register) { *r = sheet.Register{Houses: 1, Start: []int{0}} }, api.OK},
		{"most sheets", func(r *sheet.Register) { r.Start = []int{0, 1, 2, 2} }, api.OK},
		{"no entries", func(r *sheet.Register) { r.Entries = nil }, api.OK},
		{"most entries", func(r *sheet.Register) { r.Entries = append(r.Entries, r.Entries...) }, api.OK},
		{"most sights", func(r *sheet.Register) { r.Sights = make([]sheet.Sight, 4) }, api.OK},
		{"the last sheet, house and day", func(r *sheet.Register) { r.Sights = []sheet.Sight{sight(1, 2, 9)} }, api.OK},
		{"the last house at first", func(r *sheet.Register) { r.Start[1] = 2 }, api.OK},
		{"the first day", func(r *sheet.Register) { r.Entries[0].Day = one(0) }, api.OK},
		{"the last day", func(r *sheet.Register) { r.Entries[2].Day = one(9) }, api.OK},
		{"all days", func(r *sheet.Register) { r.Entries[1].Day = always() }, api.OK},
		{"an entry that cannot happen", func(r *sheet.Register) { r.Entries[1].Sheet = 1 }, api.OK},
		{"a return without a loan", func(r *sheet.Register) { r.Entries[0].Kind = sheet.Return }, api.OK},
		{"sights that contradict each other", func(r *sheet.Register) { r.Sights = []sheet.Sight{sight(0, 0, 0), sight(0, 1, 0)} }, api.OK},
	}
}

// tooMany are those after which it has more of something than there may be.
func tooMany() []change {
	return []change{
		{"too many houses", func(r *sheet.Register) { r.Houses = 5 }, api.ErrLimit},
		{"far too many houses", func(r *sheet.Register) { r.Houses = 1<<63 - 1 }, api.ErrLimit},
		{"too many sheets", func(r *sheet.Register) { r.Start = make([]int, 5) }, api.ErrLimit},
		{"too many entries", func(r *sheet.Register) { r.Entries = make([]sheet.Entry, 7) }, api.ErrLimit},
		{"too many sights", func(r *sheet.Register) { r.Sights = make([]sheet.Sight, 5) }, api.ErrLimit},
	}
}

// wrongChanges are those after which it is not valid.
func wrongChanges() []change {
	return append(tooMany(), []change{
		{"no houses", func(r *sheet.Register) { r.Houses = 0 }, api.ErrArg},
		{"houses below 0", func(r *sheet.Register) { r.Houses = -1 << 63 }, api.ErrArg},
		{"no sheets", func(r *sheet.Register) { r.Start = nil }, api.ErrArg},
		{"no sheets and no entries", func(r *sheet.Register) { r.Start, r.Entries = nil, nil }, api.ErrArg},
		{"a sheet in no such house", func(r *sheet.Register) { r.Start[1] = 3 }, api.ErrArg},
		{"a sheet in a house below 0", func(r *sheet.Register) { r.Start[0] = -1 }, api.ErrArg},
		{"a kind below 0", func(r *sheet.Register) { r.Entries[0].Kind = -1 }, api.ErrArg},
		{"no such kind", func(r *sheet.Register) { r.Entries[2].Kind = 3 }, api.ErrArg},
		{"an entry of no such sheet", func(r *sheet.Register) { r.Entries[2].Sheet = 2 }, api.ErrArg},
		{"an entry of a sheet below 0", func(r *sheet.Register) { r.Entries[0].Sheet = -1 }, api.ErrArg},
		{"from no such house", func(r *sheet.Register) { r.Entries[0].From = 3 }, api.ErrArg},
		{"from a house below 0", func(r *sheet.Register) { r.Entries[0].From = -1 }, api.ErrArg},
		{"to no such house", func(r *sheet.Register) { r.Entries[2].To = 3 }, api.ErrArg},
		{"to a house below 0", func(r *sheet.Register) { r.Entries[2].To = -1 << 63 }, api.ErrArg},
		{"to the same house", func(r *sheet.Register) { r.Entries[1].To = 1 }, api.ErrArg},
		{"days that end before they begin", func(r *sheet.Register) { r.Entries[1].Day = to(3, 2) }, api.ErrArg},
		{"a day below 0", func(r *sheet.Register) { r.Entries[0].Day = to(-1, 3) }, api.ErrArg},
		{"a day after the last one", func(r *sheet.Register) { r.Entries[2].Day = to(3, 10) }, api.ErrArg},
		{"days after the last one", func(r *sheet.Register) { r.Entries[2].Day = to(10, 1<<63-1) }, api.ErrArg},
		{"all days that there are", func(r *sheet.Register) { r.Entries[2].Day = to(-1<<63, 1<<63-1) }, api.ErrArg},
		{"a sight of no such sheet", func(r *sheet.Register) { r.Sights = []sheet.Sight{sight(2, 0, 0)} }, api.ErrArg},
		{"a sight of a sheet below 0", func(r *sheet.Register) { r.Sights = []sheet.Sight{sight(-1, 0, 0)} }, api.ErrArg},
		{"a sight in no such house", func(r *sheet.Register) { r.Sights = []sheet.Sight{sight(0, 0, 0), sight(0, 3, 0)} }, api.ErrArg},
		{"a sight in a house below 0", func(r *sheet.Register) { r.Sights = []sheet.Sight{sight(0, -1, 0)} }, api.ErrArg},
		{"a sight after the last day", func(r *sheet.Register) { r.Sights = []sheet.Sight{sight(0, 0, 10)} }, api.ErrArg},
		{"a sight on a day below 0", func(r *sheet.Register) { r.Sights = []sheet.Sight{sight(0, 0, -1)} }, api.ErrArg},
	}...)
}

// args are all that a call can have beside the register.
type args struct {
	truth                     []int
	number, house, other, day int
}

// rightArgs have no error, if the register has none.
func rightArgs() args { return args{truth: []int{1, 2, 3}, other: 1} }

// result is what a call returned, and its error.
type result struct {
	call  string
	value any
	e     api.Errno
}

// callAll calls every function that has an error.
func callAll(r sheet.Register, a args) []result {
	play, e1 := sheet.Play(r, a.truth)
	truth, e2 := sheet.Explain(r)
	holders, e3 := sheet.Holders(r, a.number, a.day)
	hand, e4 := sheet.InHand(r, a.house, a.day)
	owed, e5 := sheet.Owed(r, a.house, a.other, a.day)
	surely, e6 := sheet.Surely(r, a.house, a.day)
	first, e7 := sheet.First(r)
	leave, e8 := sheet.Leave(r)
	return []result{
		{"CheckRegister", nil, sheet.CheckRegister(r)},
		{"Play", play, e1}, {"Explain", truth, e2}, {"Holders", holders, e3}, {"InHand", hand, e4},
		{"Owed", owed, e5}, {"Surely", surely, e6}, {"First", first, e7}, {"Leave", leave, e8},
	}
}

// isZero reports whether a result is the zero value of its type, or an empty list.
func isZero(x any) bool {
	v := reflect.ValueOf(x)
	return !v.IsValid() || v.IsZero() || v.Kind() == reflect.Slice && v.Len() == 0
}

// TestR1Register: a register that is not valid has its error in each call, before
// those of all else; no other result; and no proof.
func TestR1Register(t *testing.T) {
	for _, x := range wrongChanges() {
		r := theExample()
		x.change(&r)
		for _, a := range []args{rightArgs(), {number: 9, house: 9, other: 9, day: 99}, {truth: []int{3, 2, 3}}} {
			for _, got := range callAll(r, a) {
				if got.e != x.e || !isZero(got.value) {
					t.Errorf("%s, %s: %v, %v; want %v", got.call, x.name, got.value, got.e, x.e)
				}
			}
		}
		if sheet.ProveTruth(r, []int{1, 2, 3}) || sheet.ProveTruth(r, nil) {
			t.Errorf("ProveTruth, %s", x.name)
		}
	}
}

// TestR1LimitFirst: too many of anything counts before all else that is wrong.
func TestR1LimitFirst(t *testing.T) {
	for _, x := range tooMany() {
		for _, y := range wrongChanges() {
			r := theExample()
			y.change(&r)
			x.change(&r)
			if e := sheet.CheckRegister(r); e != api.ErrLimit {
				t.Errorf("CheckRegister, %s and %s: %v", y.name, x.name, e)
			}
		}
	}
}

// TestR1Order: of several errors the one counts that is first in the table.
func TestR1Order(t *testing.T) {
	contradiction := func(r *sheet.Register, a *args) { r.Sights = []sheet.Sight{sight(0, 0, 4)} }
	impossible := func(r *sheet.Register, a *args) { a.truth = []int{3, 2, 3} }
	type due map[string]api.Errno
	outside := func(calls ...string) due {
		d := due{"First": api.ErrNone}
		for _, call := range calls {
			d[call] = api.ErrRange
		}
		return d
	}
	failed := due{"First": api.ErrNone, "Explain": api.ErrFail, "Holders": api.ErrFail, "InHand": api.ErrFail, "Owed": api.ErrFail, "Surely": api.ErrFail}
	type changes []func(r *sheet.Register, a *args)
	for _, x := range []struct {
		name    string
		changes changes
		want    due
	}{
		{"nothing", nil, outside()},
		{"no such sheet", changes{func(r *sheet.Register, a *args) { a.number = 2 }}, outside("Holders")},
		{"a sheet below 0", changes{func(r *sheet.Register, a *args) { a.number = -1 }}, outside("Holders")},
		{"a sheet far away", changes{func(r *sheet.Register, a *args) { a.number = 1<<63 - 1 }}, outside("Holders")},
		{"no such house", changes{func(r *sheet.Register, a *args) { a.house = 3 }}, outside("InHand", "Owed", "Surely")},
		{"a house below 0", changes{func(r *sheet.Register, a *args) { a.house = -1 }}, outside("InHand", "Owed", "Surely")},
		{"a house far away", changes{func(r *sheet.Register, a *args) { a.house = -1 << 63 }}, outside("InHand", "Owed", "Surely")},
		{"no such borrower", changes{func(r *sheet.Register, a *args) { a.other = 3 }}, outside("Owed")},
		{"a borrower below 0", changes{func(r *sheet.Register, a *args) { a.other = -1 }}, outside("Owed")},
		{"one house, and there is none such", changes{func(r *sheet.Register, a *args) { a.house, a.other = 3, 3 }}, outside("InHand", "Owed", "Surely")},
		{"no such day", changes{func(r *sheet.Register, a *args) { a.day = 10 }}, outside("Holders", "InHand", "Owed", "Surely")},
		{"a day below 0", changes{func(r *sheet.Register, a *args) { a.day = -1 }}, outside("Holders", "InHand", "Owed", "Surely")},
		{"a day too few", changes{func(r *sheet.Register, a *args) { a.truth = a.truth[:2] }}, outside("Play")},
		{"a day too many, and impossible", changes{impossible, func(r *sheet.Register, a *args) { a.truth = append(a.truth, 3) }}, outside("Play")},
		{"a day of another entry, and impossible", changes{impossible, func(r *sheet.Register, a *args) { a.truth[2] = 6 }}, outside("Play")},
		{"impossible", changes{impossible}, due{"First": api.ErrNone, "Play": api.ErrFalse}},
		{"a contradiction", changes{contradiction}, failed},
		{"a contradiction, and no such day", changes{contradiction, func(r *sheet.Register, a *args) { a.day = 10 }}, due{"First": api.ErrNone, "Explain": api.ErrFail, "Holders": api.ErrRange, "InHand": api.ErrRange, "Owed": api.ErrRange, "Surely": api.ErrRange}},
		{"a contradiction, and no such sheet", changes{contradiction, func(r *sheet.Register, a *args) { a.number = 2 }}, due{"First": api.ErrNone, "Explain": api.ErrFail, "Holders": api.ErrRange, "InHand": api.ErrFail, "Owed": api.ErrFail, "Surely": api.ErrFail}},
		{"a contradiction, and one house", changes{contradiction, func(r *sheet.Register, a *args) { a.other = a.house }}, failed},
	} {
		r, a := theExample(), rightArgs()
		for _, change := range x.changes {
			change(&r, &a)
		}
		for _, got := range callAll(r, a) {
			if got.e != x.want[got.call] || got.e != api.OK && !isZero(got.value) {
				t.Errorf("%s, %s: %v, %v; want %v", got.call, x.name, got.value, got.e, x.want[got.call])
			}
		}
	}
}

// TestR3Empty: nil and a list without elements are the same.
func TestR3Empty(t *testing.T) {
	want := callAll(register([]int{0, 1}), args{})
	for _, entries := range [][]sheet.Entry{nil, {}} {
		for _, sights := range [][]sheet.Sight{nil, {}} {
			for _, truth := range [][]int{nil, {}} {
				r := sheet.Register{Houses: 3, Start: []int{0, 1}, Entries: entries, Sights: sights}
				got := callAll(r, args{truth: truth})
				if !sheet.ProveTruth(r, truth) || len(got[2].value.([]int)) != 0 {
					t.Errorf("a register without entries: %v", got)
				}
				got[2].value = want[2].value
				if !reflect.DeepEqual(got, want) {
					t.Errorf("a register without entries: %v; want %v", got, want)
				}
			}
		}
	}
	if e := sheet.CheckRegister(sheet.Register{Houses: 3, Start: []int{}}); e != api.ErrArg {
		t.Errorf("CheckRegister without sheets: %v", e)
	}
}

// copyOf returns the register in memory of its own.
func copyOf(r sheet.Register) sheet.Register {
	r.Start, r.Entries, r.Sights = slices.Clone(r.Start), slices.Clone(r.Entries), slices.Clone(r.Sights)
	return r
}

// fill writes to all memory of a list, and beyond its end.
func fill(list []int) {
	list = list[:cap(list)]
	for i := range list {
		list[i] = -7
	}
}

// TestR4Memory: arguments are not written to, results share no memory.
func TestR4Memory(t *testing.T) {
	for _, s := range samples(150) {
		r, truth := copyOf(s.r), slices.Clone(s.what)
		a := args{truth: truth, other: 1, day: 4}
		kept, again := callAll(r, a), callAll(r, a)
		for i := range again {
			switch x := again[i].value.(type) {
			case []int:
				fill(x)
			case [][]int:
				for n := range x {
					fill(x[n])
					for m := range x {
						if m > n && !reflect.DeepEqual(x[m], kept[i].value.([][]int)[m]) {
							t.Fatalf("Play of %v: the sheet %d has become %v with the sheet %d", r, m, x[m], n)
						}
					}
				}
			}
			if !reflect.DeepEqual(kept, callAll(r, a)) || !reflect.DeepEqual(r, s.r) || !slices.Equal(truth, s.what) {
				t.Fatalf("%s: %v, %v has become %v, %v", again[i].call, s.r, s.what, r, truth)
			}
		}
	}
}

// anyNumber returns numbers within limits, near them, and far away.
func anyNumber(r *rand.Rand) int {
	return pick(r, 0, 0, 0, 0, 1, 1, 1, 2, 2, 3, 4, 5, 9, 10, -1, 1<<63-1, -1<<63, r.Int(), -r.Int())
}

// anyList returns a list of any numbers.
func anyList(r *rand.Rand) []int {
	var list []int
	for range pick(r, 0, 1, 2, 3, 6, 7) {
		list = append(list, anyNumber(r))
	}
	return list
}

// anyRegister returns a register that is often not valid.
func anyRegister(r *rand.Rand) sheet.Register {
	g := pick(r, someSample(r, 100).r, theExample(), sheet.Register{}, sheet.Register{Houses: anyNumber(r), Start: anyList(r)})
	g.Houses = pick(r, g.Houses, g.Houses, g.Houses, anyNumber(r))
	g.Entries, g.Sights = slices.Clone(g.Entries), slices.Clone(g.Sights)
	for range pick(r, 0, 0, 1, 2, 6) {
		e := sheet.Entry{Kind: anyNumber(r), Sheet: anyNumber(r), From: anyNumber(r), To: anyNumber(r), Day: to(anyNumber(r), anyNumber(r))}
		g.Entries = append(g.Entries, e)
	}
	for range pick(r, 0, 0, 1, 4) {
		g.Sights = append(g.Sights, sight(anyNumber(r), anyNumber(r), anyNumber(r)))
	}
	return g
}

// TestP1Returns: no call panics, and each has a zero value with its error,
// whatever its arguments are.
func TestP1Returns(t *testing.T) {
	r := rand.New(rand.NewSource(1))
	for range 3000 {
		g := anyRegister(r)
		a := args{anyList(r), anyNumber(r), anyNumber(r), anyNumber(r), anyNumber(r)}
		isProved := sheet.ProveTruth(g, a.truth)
		for _, x := range callAll(g, a) {
			if x.e != api.OK && (!isZero(x.value) || isProved && (x.call == "Play" || x.call == "Explain")) {
				t.Fatalf("%s of %v, %v: %v, %v", x.call, g, a, x.value, x.e)
			}
		}
	}
}

// widest returns a register with as much as there may be of everything, whose
// sights are all wrong.
func widest() sheet.Register {
	r := sheet.Register{Houses: api.MaxSheetHouses, Start: []int{0, 0, 0, 0}}
	for number := range r.Start {
		r.Entries = append(r.Entries, loan(number, 0, 1, always()))
		r.Sights = append(r.Sights, sight(number, 3, api.MaxSheetDay))
	}
	r.Entries = append(r.Entries, pass(0, 1, 2, always()), back(1, 1, 0, always()))
	return r
}

// TestP1Widest: all days of all entries, which can happen in nearly any order.
func TestP1Widest(t *testing.T) {
	r := widest()
	if l, e := sheet.Leave(r); !slices.Equal(l, []int{6, 7, 8, 9}) || e != api.OK {
		t.Errorf("Leave: %v, %v", l, e)
	}
	r.Sights = nil
	if got := askOn(t, r, 4); !slices.Equal(got.inHand, []sheet.Range{to(0, 4), to(0, 4), to(0, 1), one(0)}) || got.owed[0][1] != to(0, 4) {
		t.Errorf("on the day 4: %v", got)
	}
	if got := askOn(t, r, 9); !slices.Equal(got.inHand, []sheet.Range{one(1), one(2), one(1), one(0)}) || got.owed[0][1] != one(3) {
		t.Errorf("on the last day: %v", got)
	}
}
