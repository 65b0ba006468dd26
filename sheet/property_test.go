package sheet_test

import (
	"math/rand"
	"reflect"
	"slices"
	"testing"

	"contango/api"
	"contango/sheet"
)

// TestP5_1Oracle compares Play with the definitions, and ProveTruth (P5.2).
func TestP5_1Oracle(t *testing.T) {
	r := rand.New(rand.NewSource(1))
	played, proved := map[bool]int{}, map[bool]int{}
	for _, s := range samples(1000) {
		eachList(s.r, func(truth []int) bool {
			if r.Intn(20) > 0 {
				return true
			}
			var want [][]int
			e := api.ErrFalse
			if happens(s.r, truth) {
				want, e = courses(s.r, truth), api.OK
			}
			l, got := sheet.Play(s.r, truth)
			if !reflect.DeepEqual(l, want) || got != e {
				t.Fatalf("Play of %v, %v: %v, %v; want %v, %v", s.r, truth, l, got, want, e)
			}
			is := isTruth(s.r, truth)
			if sheet.ProveTruth(s.r, truth) != is {
				t.Fatalf("ProveTruth of %v, %v: %v", s.r, truth, !is)
			}
			played[e == api.OK]++
			proved[is]++
			return true
		})
	}
	if played[true] < 500 || played[false] < 500 || proved[true] < 300 || proved[true] == played[true] {
		t.Errorf("played %v, proved %v", played, proved)
	}
}

// courses returns the houses of all sheets on all days, in the truth.
func courses(r sheet.Register, truth []int) [][]int {
	var list [][]int
	for number := range r.Start {
		var houses []int
		for day := range api.MaxSheetDay + 1 {
			houses = append(houses, houseOf(r, inOrder(truth, day), number))
		}
		list = append(list, houses)
	}
	return list
}

// TestP5_2Oracle, of P5.5, too, compares with all truths whether there is one.
func TestP5_2Oracle(t *testing.T) {
	contradicts := map[bool]int{}
	for _, s := range samples(1000) {
		truth, e := sheet.Explain(s.r)
		contradicts[e == api.ErrFail]++
		if len(s.truths) == 0 && (truth != nil || e != api.ErrFail) {
			t.Fatalf("Explain of %v: %v, %v", s.r, truth, e)
		}
		isOne := slices.ContainsFunc(s.truths, func(x []int) bool { return slices.Equal(x, truth) })
		if len(s.truths) > 0 && (!isOne || e != api.OK) {
			t.Fatalf("Explain of %v: %v, %v", s.r, truth, e)
		}
		first, isWrong := firstWrong(s.r)
		n, e := sheet.First(s.r)
		if n != first || (e == api.OK) != isWrong || e != api.OK && e != api.ErrNone {
			t.Fatalf("First of %v: %d, %v; want %d, %v", s.r, n, e, first, isWrong)
		}
	}
	if contradicts[true] < 100 || contradicts[false] < 500 {
		t.Errorf("contradict themselves: %v", contradicts)
	}
}

// askOn calls Holders, Surely, InHand and Owed, which must have no error.
func askOn(t *testing.T, r sheet.Register, day int) asked {
	t.Helper()
	var a asked
	check := func(call string, e api.Errno) {
		if e != api.OK {
			t.Fatalf("%s of %v on %d: %v", call, r, day, e)
		}
	}
	for number := range r.Start {
		l, e := sheet.Holders(r, number, day)
		check("Holders", e)
		a.holders = append(a.holders, l)
	}
	for house := range r.Houses {
		l, e := sheet.Surely(r, house, day)
		check("Surely", e)
		hand, e := sheet.InHand(r, house, day)
		check("InHand", e)
		var owed []sheet.Range
		for other := range r.Houses {
			x, e := sheet.Owed(r, house, other, day)
			check("Owed", e)
			owed = append(owed, x)
		}
		a.surely, a.inHand, a.owed = append(a.surely, l), append(a.inHand, hand), append(a.owed, owed)
	}
	return a
}

// isSame reports whether both are the same.
func (a asked) isSame(b asked) bool {
	return slices.EqualFunc(a.holders, b.holders, slices.Equal) && slices.EqualFunc(a.surely, b.surely, slices.Equal) &&
		slices.Equal(a.inHand, b.inHand) && slices.EqualFunc(a.owed, b.owed, slices.Equal)
}

// isIn reports whether all that can be can be in the other one, too.
func (a asked) isIn(b asked) bool {
	within := func(x, y sheet.Range) bool { return x.Lo >= y.Lo && x.Hi <= y.Hi }
	among := func(x, y []int) bool {
		return !slices.ContainsFunc(x, func(n int) bool { return !slices.Contains(y, n) })
	}
	ranges := func(x, y []sheet.Range) bool { return slices.EqualFunc(x, y, within) }
	return slices.EqualFunc(a.holders, b.holders, among) && slices.EqualFunc(b.surely, a.surely, among) &&
		ranges(a.inHand, b.inHand) && slices.EqualFunc(a.owed, b.owed, ranges)
}

// TestP5_3Oracle, of P5.4, too, compares all that is returned of sheets and
// houses with all truths.
func TestP5_3Oracle(t *testing.T) {
	r := rand.New(rand.NewSource(3))
	unsure, unlike, owed := 0, 0, 0
	for _, s := range samples(5000) {
		if len(s.truths) == 0 {
			continue
		}
		day := between(r, 0, api.MaxSheetDay)
		got, want := askOn(t, s.r, day), s.dueOn(day)
		if !got.isSame(want) {
			t.Fatalf("%v on %d: %v; want %v", s.r, day, got, want)
		}
		for house, hand := range got.inHand {
			can := 0
			for _, houses := range got.holders {
				if slices.Contains(houses, house) {
					can++
				}
			}
			if hand.Lo < hand.Hi {
				unsure++
			}
			if hand.Lo > len(got.surely[house]) || hand.Hi < can {
				unlike++
			}
			if slices.ContainsFunc(got.owed[house], func(x sheet.Range) bool { return x.Hi > 1 || x.Lo < x.Hi }) {
				owed++
			}
		}
	}
	if unsure < 1000 || unlike < 15 || owed < 500 {
		t.Errorf("numbers that are not sure: %d, that Holders does not tell: %d, loans: %d", unsure, unlike, owed)
	}
}

// TestP5_5Oracle compares Leave with all sets.
func TestP5_5Oracle(t *testing.T) {
	r := rand.New(rand.NewSource(5))
	lengths := map[int]int{}
	for range 500 {
		s := someSample(r, 100)
		for range r.Intn(3) {
			spoil(r, &s.r)
		}
		if countLists(s.r) > 300 {
			continue
		}
		want := smallestSet(s.r)
		if l, e := sheet.Leave(s.r); !slices.Equal(l, want) || e != api.OK {
			t.Fatalf("Leave of %v: %v, %v; want %v", s.r, l, e, want)
		}
		lengths[len(want)]++
	}
	if lengths[0] < 100 || lengths[1] < 50 || lengths[2] < 30 || lengths[3] < 5 {
		t.Errorf("lengths of the smallest sets: %v", lengths)
	}
}

func TestP5_6OneHand(t *testing.T) {
	r := rand.New(rand.NewSource(6))
	for _, s := range samples(200) {
		if len(s.truths) == 0 {
			continue
		}
		day := between(r, 0, api.MaxSheetDay)
		got := askOn(t, s.r, day)
		for range 10 {
			truth := pick(r, s.truths...)
			houses, e := sheet.Play(s.r, truth)
			if e != api.OK {
				t.Fatalf("Play of %v, %v: %v", s.r, truth, e)
			}
			in := make([]int, s.r.Houses)
			for number, l := range houses {
				in[l[day]]++
				if !slices.Contains(got.holders[number], l[day]) {
					t.Fatalf("%v, %v: the sheet %d is in %d on %d; holders %v", s.r, truth, number, l[day], day, got.holders)
				}
			}
			sum := 0
			for house, many := range in {
				sum += many
				if many < got.inHand[house].Lo || many > got.inHand[house].Hi {
					t.Fatalf("%v, %v: %v sheets on %d; in hand %v", s.r, truth, in, day, got.inHand)
				}
			}
			if sum != len(s.r.Start) {
				t.Fatalf("%v, %v: %v sheets on %d", s.r, truth, in, day)
			}
		}
	}
}

func TestP5_7WhatHappened(t *testing.T) {
	r := rand.New(rand.NewSource(7))
	for range 1000 {
		g, what := someHistory(r)
		if !sheet.ProveTruth(g, what) {
			t.Fatalf("ProveTruth of %v, %v", g, what)
		}
		if truth, e := sheet.Explain(g); e != api.OK || !sheet.ProveTruth(g, truth) {
			t.Fatalf("Explain of %v: %v, %v", g, truth, e)
		}
		if l, e := sheet.Leave(g); len(l) > 0 || e != api.OK {
			t.Fatalf("Leave of %v: %v, %v", g, l, e)
		}
		day := between(r, 0, api.MaxSheetDay)
		if was, got := (sample{g, what, [][]int{what}}).dueOn(day), askOn(t, g, day); !was.isIn(got) {
			t.Fatalf("%v on %d: %v; what was so %v", g, day, got, was)
		}
	}
}

func TestP5_8Ends(t *testing.T) {
	r := rand.New(rand.NewSource(8))
	is := map[bool]int{}
	for _, s := range samples(400) {
		if len(s.truths) == 0 || len(s.r.Sights) == api.MaxSheetSights {
			continue
		}
		day := between(r, 0, api.MaxSheetDay)
		for number := range s.r.Start {
			houses, e := sheet.Holders(s.r, number, day)
			if e != api.OK {
				t.Fatalf("Holders of %v: %v", s.r, e)
			}
			for house := range s.r.Houses {
				more := seen(s.r, sight(number, house, day))
				want := api.ErrFail
				if slices.Contains(houses, house) {
					want = api.OK
				}
				if truth, e := sheet.Explain(more); e != want {
					t.Fatalf("Explain of %v: %v, %v; holders %v", more, truth, e, houses)
				}
				is[want == api.OK]++
			}
		}
	}
	if is[true] < 500 || is[false] < 500 {
		t.Errorf("houses of Holders, and others: %v", is)
	}
}

func TestP5_9Surely(t *testing.T) {
	for _, s := range samples(100) {
		if len(s.truths) == 0 {
			continue
		}
		for day := range api.MaxSheetDay + 1 {
			got := askOn(t, s.r, day)
			for house, sure := range got.surely {
				for number, houses := range got.holders {
					if slices.Contains(sure, number) != slices.Equal(houses, []int{house}) {
						t.Fatalf("%v on %d: %v", s.r, day, got)
					}
				}
			}
		}
	}
}

// leave returns how many entries and sights have to be left out.
func leave(t *testing.T, r sheet.Register) int {
	t.Helper()
	l, e := sheet.Leave(r)
	if e != api.OK {
		t.Fatalf("Leave of %v: %v", r, e)
	}
	return len(l)
}

// someSight returns any sight, or one of a day of an entry that is right in some truth.
func someSight(r *rand.Rand, s sample) sheet.Sight {
	x := sight(r.Intn(len(s.r.Start)), r.Intn(s.r.Houses), between(r, 0, api.MaxSheetDay))
	if len(s.truths) > 0 && len(s.r.Entries) > 0 && r.Intn(3) > 0 {
		e := pick(r, s.r.Entries...)
		x.Sheet, x.Day = e.Sheet, between(r, e.Day.Lo, e.Day.Hi)
		x.House = houseOf(s.r, inOrder(pick(r, s.truths...), x.Day), x.Sheet)
	}
	return x
}

func TestP5_10MoreSights(t *testing.T) {
	r := rand.New(rand.NewSource(10))
	narrower, more := 0, 0
	for _, s := range samples(1500) {
		if len(s.r.Sights) == api.MaxSheetSights {
			continue
		}
		x := someSight(r, s)
		with := seen(s.r, x)
		was, is := leave(t, s.r), leave(t, with)
		if is < was {
			t.Fatalf("Leave of %v: %d; of %v: %d", s.r, was, with, is)
		}
		more += is - was
		if is > 0 {
			continue
		}
		day := pick(r, x.Day, between(r, 0, api.MaxSheetDay))
		before, after := askOn(t, s.r, day), askOn(t, with, day)
		if !after.isIn(before) {
			t.Fatalf("%v on %d: %v; of %v: %v", s.r, day, before, with, after)
		}
		if !before.isSame(after) {
			narrower++
		}
	}
	if narrower < 100 || more < 100 {
		t.Errorf("narrower: %d; more to leave out: %d", narrower, more)
	}
}

func TestP5_11WiderDays(t *testing.T) {
	r := rand.New(rand.NewSource(11))
	wider, fewer := 0, 0
	for _, s := range samples(1000) {
		if len(s.r.Entries) == 0 {
			continue
		}
		with := copyOf(s.r)
		x := &with.Entries[r.Intn(len(with.Entries))].Day
		*x = to(between(r, 0, x.Lo), between(r, x.Hi, api.MaxSheetDay))
		was, is := leave(t, s.r), leave(t, with)
		if is > was {
			t.Fatalf("Leave of %v: %d; of %v: %d", s.r, was, with, is)
		}
		fewer += was - is
		if was > 0 {
			continue
		}
		day := between(r, 0, api.MaxSheetDay)
		before, after := askOn(t, s.r, day), askOn(t, with, day)
		if !before.isIn(after) {
			t.Fatalf("%v on %d: %v; of %v: %v", s.r, day, before, with, after)
		}
		if !before.isSame(after) {
			wider++
		}
	}
	if wider < 50 || fewer < 20 {
		t.Errorf("wider: %d; fewer to leave out: %d", wider, fewer)
	}
}

// TestP5_12First: the entries before the one that First returns have a truth,
// those up to it have none, whatever is seen.
func TestP5_12First(t *testing.T) {
	some := map[bool]int{}
	for _, s := range samples(1000) {
		n, e := sheet.First(s.r)
		some[e == api.OK]++
		if e != api.OK {
			n = len(s.r.Entries)
		}
		before := sheet.Register{Houses: s.r.Houses, Start: s.r.Start, Entries: s.r.Entries[:n]}
		if truth, e := sheet.Explain(before); e != api.OK || !sheet.ProveTruth(before, truth) {
			t.Fatalf("First of %v: %d; before: %v, %v", s.r, n, truth, e)
		}
		if e != api.OK {
			continue
		}
		before.Entries = s.r.Entries[:n+1]
		if truth, e := sheet.Explain(before); e != api.ErrFail {
			t.Fatalf("First of %v: %d; up to it: %v, %v", s.r, n, truth, e)
		}
	}
	if some[true] < 300 || some[false] < 300 {
		t.Errorf("First returns an entry: %v", some)
	}
}

// TestP5_13LeftOut tries all lists that are shorter than the smallest set, and
// those of its length that are before it.
func TestP5_13LeftOut(t *testing.T) {
	some := 0
	for _, s := range samples(1000) {
		set, e := sheet.Leave(s.r)
		if e != api.OK || len(set) == 0 {
			continue
		}
		some++
		if truth, e := sheet.Explain(without(s.r, set)); e != api.OK {
			t.Fatalf("Explain of %v without %v: %v, %v", s.r, set, truth, e)
		}
		all := allSets(s.r)
		at := slices.IndexFunc(all, func(l []int) bool { return slices.Equal(l, set) })
		for _, l := range all[:at] {
			if truth, e := sheet.Explain(without(s.r, l)); e != api.ErrFail {
				t.Fatalf("Leave of %v: %v; without %v: %v, %v", s.r, set, l, truth, e)
			}
		}
	}
	if some < 100 {
		t.Errorf("only %d sets", some)
	}
}

// countMore returns how many more houses can hold a sheet at the end of the day,
// if the Returns of a register are Passes. No house must stop to, and no number
// of open loans be below 0.
func countMore(t *testing.T, r, passed sheet.Register, day int) int {
	t.Helper()
	before, after := askOn(t, r, day), askOn(t, passed, day)
	for lender, list := range before.owed {
		if slices.ContainsFunc(list, func(x sheet.Range) bool { return x.Lo < 0 }) || list[lender] != one(0) {
			t.Fatalf("%v on %d: open loans %v", r, day, before.owed)
		}
	}
	more := 0
	for number, houses := range before.holders {
		for _, house := range houses {
			if !slices.Contains(after.holders[number], house) {
				t.Fatalf("%v on %d: %v; with Passes %v", r, day, before.holders, after.holders)
			}
		}
		more += len(after.holders[number]) - len(houses)
	}
	return more
}

func TestP5_14Loans(t *testing.T) {
	more := 0
	for _, s := range samples(1000) {
		passed := copyOf(s.r)
		for i := range passed.Entries {
			if passed.Entries[i].Kind == sheet.Return {
				passed.Entries[i].Kind = sheet.Pass
			}
		}
		if len(s.truths) == 0 || reflect.DeepEqual(passed, s.r) {
			continue
		}
		for day := range api.MaxSheetDay + 1 {
			more += countMore(t, s.r, passed, day)
		}
	}
	if more < 20 {
		t.Errorf("only %d more holders", more)
	}
}

// renamed returns the register whose houses have these other numbers.
func renamed(r sheet.Register, names []int) sheet.Register {
	r = copyOf(r)
	for i := range r.Start {
		r.Start[i] = names[r.Start[i]]
	}
	for i := range r.Entries {
		e := &r.Entries[i]
		e.From, e.To = names[e.From], names[e.To]
	}
	for i := range r.Sights {
		r.Sights[i].House = names[r.Sights[i].House]
	}
	return r
}

// renamed returns the same, if the houses have these other numbers.
func (a asked) renamed(names []int) asked {
	b := asked{surely: make([][]int, len(names)), inHand: make([]sheet.Range, len(names)), owed: make([][]sheet.Range, len(names))}
	for _, houses := range a.holders {
		var list []int
		for _, house := range houses {
			list = append(list, names[house])
		}
		slices.Sort(list)
		b.holders = append(b.holders, list)
	}
	for house, name := range names {
		b.surely[name], b.inHand[name] = a.surely[house], a.inHand[house]
		b.owed[name] = make([]sheet.Range, len(names))
		for other, x := range a.owed[house] {
			b.owed[name][names[other]] = x
		}
	}
	return b
}

func TestP5_15OtherNames(t *testing.T) {
	r := rand.New(rand.NewSource(15))
	for _, s := range samples(600) {
		names := r.Perm(s.r.Houses)
		other := renamed(s.r, names)
		n, e := sheet.First(s.r)
		m, f := sheet.First(other)
		l, _ := sheet.Leave(s.r)
		k, _ := sheet.Leave(other)
		if n != m || e != f || !slices.Equal(l, k) {
			t.Fatalf("First, Leave of %v: %d, %v, %v; of %v: %d, %v, %v", s.r, n, e, l, other, m, f, k)
		}
		if len(s.truths) == 0 {
			continue
		}
		if !sheet.ProveTruth(other, s.truths[0]) {
			t.Fatalf("ProveTruth of %v, %v", other, s.truths[0])
		}
		day := between(r, 0, api.MaxSheetDay)
		if got, want := askOn(t, other, day), askOn(t, s.r, day).renamed(names); !got.isSame(want) {
			t.Fatalf("%v on %d: %v; want %v", other, day, got, want)
		}
	}
}

// TestP7AnyOrder: sights lead to the same in whatever order they are listed.
func TestP7AnyOrder(t *testing.T) {
	r := rand.New(rand.NewSource(70))
	for _, s := range samples(1000) {
		if len(s.r.Sights) < 2 {
			continue
		}
		other := copyOf(s.r)
		r.Shuffle(len(other.Sights), func(i, j int) {
			other.Sights[i], other.Sights[j] = other.Sights[j], other.Sights[i]
		})
		if was, is := leave(t, s.r), leave(t, other); was != is {
			t.Fatalf("Leave of %v: %d; of %v: %d", s.r, was, other, is)
		}
		if len(s.truths) == 0 {
			continue
		}
		day := between(r, 0, api.MaxSheetDay)
		if !askOn(t, s.r, day).isSame(askOn(t, other, day)) {
			t.Fatalf("%v and %v are not the same on %d", s.r, other, day)
		}
	}
}
