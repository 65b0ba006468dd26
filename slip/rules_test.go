package slip_test

import (
	"math/rand"
	"reflect"
	"slices"
	"testing"

	"contango/api"
	"contango/hand"
	"contango/slip"
)

// result is what a call returned, and its error.
type result struct {
	call  string
	value any
	e     api.Errno
}

// callAll calls every function that has an error.
func callAll(d slip.Day, a, b int) []result {
	can, e1 := slip.Can(d, a, b)
	prices, numbers, e2 := slip.Deal(d, a, b)
	match, e3 := slip.Match(d)
	cover, e4 := slip.Cover(d)
	sure, e5 := slip.Sure(d)
	possible, e6 := slip.Possible(d)
	makers, e7 := slip.Makers(d, a)
	return []result{
		{"CheckDay", nil, slip.CheckDay(d)},
		{"Can", can, e1}, {"Deal's prices", prices, e2}, {"Deal's numbers", numbers, e2}, {"Match", match, e3},
		{"Cover", cover, e4}, {"Sure", sure, e5}, {"Possible", possible, e6}, {"Makers", makers, e7},
	}
}

// isZero reports whether a result is the zero value of its type, or an empty list.
func isZero(x any) bool {
	v := reflect.ValueOf(x)
	return !v.IsValid() || v.IsZero() || v.Kind() == reflect.Slice && v.Len() == 0
}

// change is one of a valid day, after which it has the error e.
type change struct {
	name   string
	change func(d *slip.Day)
	e      api.Errno
}

// validChanges are those after which the day of the example is still valid.
func validChanges() []change {
	return []change{
		{"most houses", func(d *slip.Day) { d.Houses = api.MaxSlipHouses }, api.OK},
		{"most signs", func(d *slip.Day) { d.Signs = append(d.Signs, []int{0, 1, 2}, nil, []int{}) }, api.OK},
		{"most slips", func(d *slip.Day) { d.Slips = append(path(5).Slips, d.Slips...) }, api.OK},
		{"a sign for no house", func(d *slip.Day) { d.Signs[0] = nil }, api.OK},
		{"no slips and no signs", func(d *slip.Day) { d.Slips, d.Signs = nil, nil }, api.OK},
		{"no slips and one house", func(d *slip.Day) { *d = slip.Day{Hand: d.Hand, Houses: 1} }, api.OK},
		{"the least Late", func(d *slip.Day) { d.Late = 0 }, api.OK},
		{"the greatest Late", func(d *slip.Day) { d.Late = api.MaxSlipLate }, api.OK},
		{"the last house", func(d *slip.Day) { d.Slips[0].House = 2 }, api.OK},
		{"the last sign", func(d *slip.Day) { d.Slips[0].Sign = 2 }, api.OK},
		{"a sign for its own house", func(d *slip.Day) { d.Signs[1] = []int{0} }, api.OK},
		{"all minutes", func(d *slip.Day) { d.Slips[0].Minute = to(0, api.MaxSlipMinute) }, api.OK},
		{"the last minute", func(d *slip.Day) { d.Slips[2].Minute = to(api.MaxSlipMinute, api.MaxSlipMinute) }, api.OK},
		{"most readings", func(d *slip.Day) { d.Slips[0].Price = note("1", "2", "3", "4") }, api.OK},
		{"a price that contradicts itself", func(d *slip.Day) { d.Slips[0].Price = note("1", "3") }, api.OK},
		{"a number that contradicts itself", func(d *slip.Day) { d.Slips[2].Number = note("05") }, api.OK},
		{"a number with eighths", func(d *slip.Day) { d.Slips[2].Number = note("1/3") }, api.OK},
		{"a check figure", func(d *slip.Day) { d.Slips[1].Number.Check = 8 }, api.OK},
	}
}

// wrongChanges are those after which the day of the example is not valid.
func wrongChanges() []change {
	wrong := []change{
		{"too many clerks", func(d *slip.Day) { d.Hand.Clerks = make([][]hand.Pair, 4) }, api.ErrLimit},
		{"too many pairs", func(d *slip.Day) { d.Hand.Clerks = [][]hand.Pair{make([]hand.Pair, 9)} }, api.ErrLimit},
		{"no clerk", func(d *slip.Day) { d.Hand.Clerks = nil }, api.ErrArg},
		{"too many misread figures", func(d *slip.Day) { d.Hand.Errors = 4 }, api.ErrArg},
		{"too many houses", func(d *slip.Day) { d.Houses = 7 }, api.ErrLimit},
		{"far too many houses", func(d *slip.Day) { d.Houses = 1<<63 - 1 }, api.ErrLimit},
		{"too many signs", func(d *slip.Day) { d.Signs = make([][]int, 7) }, api.ErrLimit},
		{"too many slips", func(d *slip.Day) { d.Slips = append(path(6).Slips, d.Slips...) }, api.ErrLimit},
		{"no houses", func(d *slip.Day) { d.Houses = 0 }, api.ErrArg},
		{"no houses, signs and slips", func(d *slip.Day) { d.Houses, d.Signs, d.Slips = 0, nil, nil }, api.ErrArg},
		{"houses below 0", func(d *slip.Day) { d.Houses = -1 << 63 }, api.ErrArg},
		{"too few houses", func(d *slip.Day) { d.Houses = 2 }, api.ErrArg},
		{"Late below 0", func(d *slip.Day) { d.Late = -1 }, api.ErrArg},
		{"Late too great", func(d *slip.Day) { d.Late = 31 }, api.ErrArg},
		{"a sign that falls", func(d *slip.Day) { d.Signs[0] = []int{1, 0} }, api.ErrArg},
		{"a house twice", func(d *slip.Day) { d.Signs[2] = []int{0, 0} }, api.ErrArg},
		{"a sign for a house below 0", func(d *slip.Day) { d.Signs[2] = []int{-1, 0} }, api.ErrArg},
		{"a sign for no such house", func(d *slip.Day) { d.Signs[2] = []int{0, 3} }, api.ErrArg},
		{"a sign that is not used", func(d *slip.Day) { d.Signs = append(d.Signs, []int{3}) }, api.ErrArg},
		{"a house below 0", func(d *slip.Day) { d.Slips[0].House = -1 }, api.ErrArg},
		{"no such house", func(d *slip.Day) { d.Slips[2].House = 3 }, api.ErrArg},
		{"a sign below 0", func(d *slip.Day) { d.Slips[0].Sign = -1 }, api.ErrArg},
		{"no such sign", func(d *slip.Day) { d.Slips[2].Sign = 3 }, api.ErrArg},
		{"no signs", func(d *slip.Day) { d.Signs = nil }, api.ErrArg},
		{"minutes that end before they begin", func(d *slip.Day) { d.Slips[2].Minute = to(10, 9) }, api.ErrArg},
		{"a minute below 0", func(d *slip.Day) { d.Slips[0].Minute = to(-1, 9) }, api.ErrArg},
		{"minutes below 0", func(d *slip.Day) { d.Slips[0].Minute = to(-1<<63, -1) }, api.ErrArg},
		{"a minute too great", func(d *slip.Day) { d.Slips[2].Minute = to(9, 301) }, api.ErrArg},
		{"minutes too great", func(d *slip.Day) { d.Slips[2].Minute = to(301, 1<<63-1) }, api.ErrArg},
	}
	for _, n := range []struct {
		name string
		n    hand.Note
	}{
		{"without readings", hand.Note{Check: hand.None}},
		{"with too many readings", note("1", "1", "1", "1", "1")},
		{"by no such clerk", hand.Note{Readings: []hand.Reading{{Clerk: 2, Text: "1"}}, Check: hand.None}},
		{"by a clerk below 0", hand.Note{Readings: []hand.Reading{{Clerk: -1, Text: "1"}}, Check: hand.None}},
		{"without a shape", note("1", "1x")},
		{"with an empty reading", note("")},
		{"with a check figure too great", hand.Note{Readings: note("1").Readings, Check: 9}},
		{"with a check figure below None", hand.Note{Readings: note("1").Readings, Check: -2}},
	} {
		wrong = append(wrong,
			change{"a price " + n.name, func(d *slip.Day) { d.Slips[0].Price = n.n }, api.ErrArg},
			change{"a number " + n.name, func(d *slip.Day) { d.Slips[2].Number = n.n }, api.ErrArg},
		)
	}
	return wrong
}

// TestR1Day: a day that is not valid has its error in each call, before those of
// slips that there are not, or of the same one twice; no other result; and no proof.
func TestR1Day(t *testing.T) {
	for _, x := range wrongChanges() {
		d := exampleDay(2)
		x.change(&d)
		for _, slips := range [][2]int{{0, 1}, {-1, 8}, {1, 1}, {1, 2}} {
			for _, r := range callAll(d, slips[0], slips[1]) {
				if r.e != x.e || !isZero(r.value) {
					t.Errorf("%s, %s, %v: %v, %v; want %v", r.call, x.name, slips, r.value, r.e, x.e)
				}
			}
		}
		none := slices.Repeat([]int{slip.None}, len(d.Slips))
		if slip.ProveMatch(d, none, 0) || slip.ProveCover(d, allLists(len(d.Slips))[1<<len(d.Slips)-1], len(d.Slips)) {
			t.Errorf("ProveMatch, ProveCover, %s", x.name)
		}
	}
}

// TestR1Order: of several errors of a day the one counts that is first in the
// table: that of the hand, then limits, then all others.
func TestR1Order(t *testing.T) {
	wrongPrice := func(d *slip.Day) { d.Slips[0].Price = hand.Note{} }
	wrongMinute := func(d *slip.Day) { d.Slips[0].Minute = to(2, 1) }
	wrongLate := func(d *slip.Day) { d.Late = -1 }
	wrongSign := func(d *slip.Day) { d.Signs[0] = []int{9, 8} }
	noClerk := func(d *slip.Day) { d.Hand.Clerks = nil }
	fourClerks := func(d *slip.Day) { d.Hand.Clerks = make([][]hand.Pair, 4) }
	moreHouses := func(d *slip.Day) { d.Houses = api.MaxSlipHouses + 1 }
	moreSigns := func(d *slip.Day) { d.Signs = append(d.Signs, make([][]int, 4)...) }
	moreSlips := func(d *slip.Day) { d.Slips = append(d.Slips, make([]slip.Slip, 6)...) }
	for _, x := range []struct {
		name    string
		changes []func(d *slip.Day)
		e       api.Errno
	}{
		{"no clerk, and too many houses", []func(d *slip.Day){noClerk, moreHouses}, api.ErrArg},
		{"no clerk, and too many signs", []func(d *slip.Day){noClerk, moreSigns}, api.ErrArg},
		{"no clerk, and too many slips", []func(d *slip.Day){noClerk, moreSlips}, api.ErrArg},
		{"too many clerks, and a wrong Late", []func(d *slip.Day){fourClerks, wrongLate}, api.ErrLimit},
		{"too many clerks, and a wrong price", []func(d *slip.Day){fourClerks, wrongPrice}, api.ErrLimit},
		{"too many clerks, and a wrong minute", []func(d *slip.Day){fourClerks, wrongMinute}, api.ErrLimit},
		{"too many houses, and a wrong Late", []func(d *slip.Day){moreHouses, wrongLate}, api.ErrLimit},
		{"too many houses, and a wrong sign", []func(d *slip.Day){moreHouses, wrongSign}, api.ErrLimit},
		{"too many signs, and a wrong one", []func(d *slip.Day){moreSigns, wrongSign}, api.ErrLimit},
		{"too many signs, and a wrong price", []func(d *slip.Day){moreSigns, wrongPrice}, api.ErrLimit},
		{"too many slips, and a wrong Late", []func(d *slip.Day){moreSlips, wrongLate}, api.ErrLimit},
		{"too many slips, and a wrong minute", []func(d *slip.Day){moreSlips, wrongMinute}, api.ErrLimit},
		{"too many slips, and a wrong price", []func(d *slip.Day){moreSlips, wrongPrice}, api.ErrLimit},
		{"all but limits", []func(d *slip.Day){wrongLate, wrongSign, wrongMinute, wrongPrice}, api.ErrArg},
	} {
		d := exampleDay(2)
		for _, change := range x.changes {
			change(&d)
		}
		for _, r := range callAll(d, 9, 9) {
			if r.e != x.e {
				t.Errorf("%s, %s: %v; want %v", r.call, x.name, r.e, x.e)
			}
		}
	}
}

// TestR1Slips: the errors of slips, in their order.
func TestR1Slips(t *testing.T) {
	d := exampleDay(2)
	for _, x := range []struct {
		a, b      int
		can, deal api.Errno
	}{
		{-1, 0, api.ErrRange, api.ErrRange},
		{0, -1, api.ErrRange, api.ErrRange},
		{3, 0, api.ErrRange, api.ErrRange},
		{0, 3, api.ErrRange, api.ErrRange},
		{1 << 62, -1 << 63, api.ErrRange, api.ErrRange},
		{3, 3, api.ErrRange, api.ErrRange},
		{-1, -1, api.ErrRange, api.ErrRange},
		{0, 0, api.ErrTwice, api.ErrTwice},
		{2, 2, api.ErrTwice, api.ErrTwice},
		{1, 2, api.OK, api.ErrFalse},
		{2, 1, api.OK, api.ErrFalse},
	} {
		if can, e := slip.Can(d, x.a, x.b); can || e != x.can {
			t.Errorf("Can of %d and %d: %v, %v; want %v", x.a, x.b, can, e, x.can)
		}
		if p, n, e := slip.Deal(d, x.a, x.b); p != nil || n != nil || e != x.deal {
			t.Errorf("Deal of %d and %d: %v, %v, %v; want %v", x.a, x.b, p, n, e, x.deal)
		}
	}
	for _, x := range []struct {
		a int
		e api.Errno
	}{{-1, api.ErrRange}, {3, api.ErrRange}, {1 << 62, api.ErrRange}, {-1 << 63, api.ErrRange}, {0, api.ErrNone}} {
		if l, e := slip.Makers(d, x.a); l != nil || e != x.e {
			t.Errorf("Makers of %d: %v, %v; want %v", x.a, l, e, x.e)
		}
	}
	if l, e := slip.Makers(path(0), 0); l != nil || e != api.ErrRange {
		t.Errorf("Makers without slips: %v, %v", l, e)
	}
}

// TestR3Empty: nil and a list without elements are the same.
func TestR3Empty(t *testing.T) {
	for _, d := range []slip.Day{
		{Hand: exampleHand(), Houses: 1},
		{Hand: exampleHand(), Houses: 1, Signs: [][]int{}, Slips: []slip.Slip{}},
	} {
		for _, r := range callAll(d, 0, 0) {
			isOfSlips := slices.Contains([]string{"Can", "Deal's prices", "Deal's numbers", "Makers"}, r.call)
			if !isZero(r.value) || (r.e != api.OK) != isOfSlips {
				t.Errorf("%s without slips: %v, %v", r.call, r.value, r.e)
			}
		}
		for _, l := range [][]int{nil, {}} {
			if !slip.ProveMatch(d, l, 0) || !slip.ProveCover(d, l, 0) {
				t.Errorf("ProveMatch, ProveCover of %v without slips", l)
			}
		}
	}
	for _, sign := range [][]int{nil, {}} {
		d := exampleDay(2)
		d.Signs[2] = sign
		if l, e := slip.Makers(d, 1); len(l) > 0 || e != api.OK {
			t.Errorf("Makers with an empty sign: %v, %v", l, e)
		}
	}
}

// copyOfNote returns the note in memory of its own.
func copyOfNote(n hand.Note) hand.Note {
	return hand.Note{Readings: slices.Clone(n.Readings), Check: n.Check}
}

// copyOf returns the day in memory of its own.
func copyOf(d slip.Day) slip.Day {
	c := slip.Day{Hand: hand.Hand{Errors: d.Hand.Errors}, Houses: d.Houses, Late: d.Late}
	for _, clerk := range d.Hand.Clerks {
		c.Hand.Clerks = append(c.Hand.Clerks, slices.Clone(clerk))
	}
	for _, sign := range d.Signs {
		c.Signs = append(c.Signs, slices.Clone(sign))
	}
	for _, s := range d.Slips {
		s.Price, s.Number = copyOfNote(s.Price), copyOfNote(s.Number)
		c.Slips = append(c.Slips, s)
	}
	return c
}

// spoil writes to all memory of a result, and beyond its end.
func spoil(x any) {
	switch l := x.(type) {
	case []int:
		clear(l[:cap(l)])
	case [][]int:
		for _, p := range l {
			clear(p[:cap(p)])
		}
	}
}

// TestR4Memory: arguments are not written to, results share no memory.
func TestR4Memory(t *testing.T) {
	for _, d := range append(someDays(100), exampleDay(2), path(8)) {
		before := copyOf(d)
		for a := range len(d.Slips) {
			b := (a + 1) % len(d.Slips)
			kept := callAll(d, a, b)
			again := callAll(d, a, b)
			for i, r := range callAll(d, a, b) {
				spoil(r.value)
				spoil(again[i].value)
				if !reflect.DeepEqual(kept, callAll(d, a, b)) || !reflect.DeepEqual(d, before) {
					t.Fatalf("%s: %v has become %v", r.call, before, d)
				}
			}
		}
	}
	d := path(3)
	d.Slips[0].Number = d.Slips[0].Price
	d.Slips[1].Number = d.Slips[1].Price
	prices, numbers, _ := slip.Deal(d, 0, 1)
	spoil(prices)
	if !slices.Equal(numbers, []int{40}) {
		t.Errorf("the numbers have become %v with the prices", numbers)
	}
	list, _ := slip.Possible(d)
	spoil(list[:1])
	if !isSame(list, [][]int{{0, 0}}) {
		t.Errorf("Possible shares memory: %v", list)
	}
}

// anyNumber returns numbers within limits, near them, and far away.
func anyNumber(r *rand.Rand) int {
	return pick(r, 0, 0, 0, 1, 1, 1, 2, 2, 3, 5, 6, 7, 8, 9, 30, 31, 300, 301, -1, -2, 1<<63-1, -1<<63, r.Int(), -r.Int())
}

// anyList returns a list of any numbers.
func anyList(r *rand.Rand) []int {
	var list []int
	for range pick(r, 0, 1, 2, 3, 5, 8, 9) {
		list = append(list, anyNumber(r))
	}
	return list
}

// anyNote returns a note that is often not valid.
func anyNote(r *rand.Rand) hand.Note {
	n := hand.Note{Check: pick(r, hand.None, hand.None, anyNumber(r))}
	for range pick(r, 0, 1, 1, 1, 2, 4, 5) {
		n.Readings = append(n.Readings, hand.Reading{Clerk: pick(r, 0, 0, anyNumber(r)), Text: pick(r, "1", "78", "45/3", "", "x", "//", "99999", "05")})
	}
	return n
}

// anyDay returns a day that is often not valid.
func anyDay(r *rand.Rand) slip.Day {
	if r.Intn(2) == 0 {
		d := someDay(r)
		d.Late = pick(r, d.Late, anyNumber(r))
		d.Houses = pick(r, d.Houses, anyNumber(r))
		return d
	}
	d := slip.Day{Hand: pick(r, exampleHand(), someHand(r), hand.Hand{}), Houses: anyNumber(r), Late: anyNumber(r)}
	for range pick(r, 0, 1, 2, 6, 7) {
		d.Signs = append(d.Signs, anyList(r))
	}
	for range pick(r, 0, 1, 2, 8, 9) {
		d.Slips = append(d.Slips, slip.Slip{
			House: anyNumber(r), Bought: r.Intn(2) == 0, Sign: anyNumber(r),
			Price: anyNote(r), Number: anyNote(r), Minute: to(anyNumber(r), anyNumber(r)),
		})
	}
	return d
}

// TestP1Returns: no call panics, and each has a zero value with its error,
// whatever its arguments are.
func TestP1Returns(t *testing.T) {
	r := rand.New(rand.NewSource(1))
	for range 5000 {
		d := anyDay(r)
		a, b := anyNumber(r), anyNumber(r)
		list, many := anyList(r), anyNumber(r)
		isProved := slip.ProveMatch(d, list, many) || slip.ProveCover(d, list, many)
		for _, x := range callAll(d, a, b) {
			if x.e != api.OK && !isZero(x.value) {
				t.Fatalf("%s of %v, %d, %d: %v, %v", x.call, d, a, b, x.value, x.e)
			}
			if x.e != api.OK && x.call == "CheckDay" && isProved {
				t.Fatalf("ProveMatch, ProveCover of %v, %v, %d", d, list, many)
			}
		}
	}
}

// TestP1Widest: a day with as much as there may be of everything is matched in
// little time.
func TestP1Widest(t *testing.T) {
	var pairs []hand.Pair
	for n := 2; n < 10; n++ {
		pairs = append(pairs, hand.Pair{Written: n, Read: 1})
	}
	d := slip.Day{Hand: hand.Hand{Clerks: [][]hand.Pair{pairs, pairs, pairs}, Errors: 3}, Houses: 6, Late: 30}
	for range api.MaxSlipSigns {
		d.Signs = append(d.Signs, []int{0, 1, 2, 3, 4, 5})
	}
	wide := note("1111/1", "1111/1", "1111/1", "1111/1")
	for i := range api.MaxSlipSlips {
		d.Slips = append(d.Slips, slip.Slip{House: i % 6, Bought: i%2 == 0, Sign: i % 6, Price: wide, Number: wide, Minute: to(0, 300)})
	}
	values := valuesOf(d, wide)
	prices, numbers, e := slip.Deal(d, 0, 1)
	if len(values) < 4000 || !slices.Equal(prices, values) || !slices.Equal(numbers, values) || e != api.OK {
		t.Errorf("Deal: %d, %d, %v; want %d", len(prices), len(numbers), e, len(values))
	}
	if l, e := slip.Match(d); !slip.ProveMatch(d, l, 4) || e != api.OK {
		t.Errorf("Match: %v, %v", l, e)
	}
	if l, e := slip.Possible(d); len(l) != 16 || e != api.OK {
		t.Errorf("Possible: %v, %v", l, e)
	}
}

// TestP7Order: in another order of the readings all is the same.
func TestP7Order(t *testing.T) {
	for _, d := range someDays(200) {
		turned := copyOf(d)
		for i := range turned.Slips {
			slices.Reverse(turned.Slips[i].Price.Readings)
			slices.Reverse(turned.Slips[i].Number.Readings)
		}
		if a, b := callAll(d, 0, 1), callAll(turned, 0, 1); !reflect.DeepEqual(a, b) {
			t.Fatalf("%v: %v; in another order %v", d, a, b)
		}
	}
}
