package slip_test

import (
	"slices"
	"testing"

	"contango/api"
	"contango/hand"
	"contango/slip"
)

// exampleHand is the hand of chapter 1's examples.
func exampleHand() hand.Hand {
	return hand.Hand{Clerks: [][]hand.Pair{{{Written: 1, Read: 7}, {Written: 3, Read: 8}}, {{Written: 7, Read: 1}}}, Errors: 1}
}

// note returns a note of what the clerk 0 read.
func note(texts ...string) hand.Note {
	n := hand.Note{Check: hand.None}
	for _, s := range texts {
		n.Readings = append(n.Readings, hand.Reading{Text: s})
	}
	return n
}

// to returns the range with these ends.
func to(low, high int) slip.Range { return slip.Range{Lo: low, Hi: high} }

// bought returns a slip of a house that bought.
func bought(house, sign int, price, number hand.Note, minute slip.Range) slip.Slip {
	return slip.Slip{House: house, Bought: true, Sign: sign, Price: price, Number: number, Minute: minute}
}

// sold returns a slip of a house that sold.
func sold(house, sign int, price, number hand.Note, minute slip.Range) slip.Slip {
	return slip.Slip{House: house, Sign: sign, Price: price, Number: number, Minute: minute}
}

// exampleDay is the day of the chapter's examples, with this Late.
func exampleDay(late int) slip.Day {
	return slip.Day{
		Hand:   exampleHand(),
		Houses: 3,
		Signs:  [][]int{{0, 1}, {1, 2}, {0}},
		Slips: []slip.Slip{
			bought(0, 1, note("45/3"), note("100"), to(10, 10)),
			sold(1, 2, note("45/8"), note("100"), to(12, 13)),
			sold(2, 0, note("45/3"), note("700"), to(9, 9)),
		},
		Late: late,
	}
}

// twoSlips is a day with two slips that can be partners, with a price from 18,
// 73 or 78, and a number from 1 or 7: each row of a table changes what it is of.
func twoSlips(change func(d *slip.Day)) slip.Day {
	d := slip.Day{
		Hand:   exampleHand(),
		Houses: 3,
		Signs:  [][]int{{0}, {1}, {}, {2}, {0, 1, 2}},
		Slips: []slip.Slip{
			bought(0, 1, note("78"), note("7"), to(10, 12)),
			sold(1, 0, note("78"), note("7"), to(15, 20)),
		},
		Late: 3,
	}
	change(&d)
	return d
}

// isSame reports whether the lists of pairs are the same.
func isSame(a, b [][]int) bool { return slices.EqualFunc(a, b, slices.Equal) }

func TestP3_1Can(t *testing.T) {
	for _, x := range []struct {
		name string
		d    slip.Day
		a, b int
		want bool
	}{
		{"45/8 was 45/3", exampleDay(2), 0, 1, true},
		{"700 was 100", exampleDay(2), 0, 2, true},
		{"both sold", exampleDay(2), 1, 2, false},
		{"10 and 12 differ by 2", exampleDay(1), 0, 1, false},
		{"10 and 9 differ by 1", exampleDay(1), 0, 2, true},
		{"no minute is the same", exampleDay(0), 0, 2, false},
		{"two slips", twoSlips(func(d *slip.Day) {}), 0, 1, true},
		{"both bought", twoSlips(func(d *slip.Day) { d.Slips[1].Bought = true }), 0, 1, false},
		{"both sold otherwise", twoSlips(func(d *slip.Day) { d.Slips[0].Bought = false }), 0, 1, false},
		{"who bought sold", twoSlips(func(d *slip.Day) { d.Slips[0].Bought, d.Slips[1].Bought = false, true }), 0, 1, true},
		{"the same house", twoSlips(func(d *slip.Day) { d.Slips[1].House, d.Slips[0].Sign = 0, 4 }), 0, 1, false},
		{"signs for each house", twoSlips(func(d *slip.Day) { d.Slips[0].Sign, d.Slips[1].Sign = 4, 4 }), 0, 1, true},
		{"the first sign is for another house", twoSlips(func(d *slip.Day) { d.Slips[0].Sign = 3 }), 0, 1, false},
		{"the first sign is for its own house", twoSlips(func(d *slip.Day) { d.Slips[0].Sign = 0 }), 0, 1, false},
		{"the second sign is for another house", twoSlips(func(d *slip.Day) { d.Slips[1].Sign = 3 }), 0, 1, false},
		{"the second sign is for its own house", twoSlips(func(d *slip.Day) { d.Slips[1].Sign = 1 }), 0, 1, false},
		{"a sign for no house", twoSlips(func(d *slip.Day) { d.Slips[1].Sign = 2 }), 0, 1, false},
		{"a value of both prices", twoSlips(func(d *slip.Day) { d.Slips[0].Price = note("73") }), 0, 1, true},
		{"no value of both prices", twoSlips(func(d *slip.Day) { d.Slips[0].Price = note("13") }), 0, 1, false},
		{"an eighth more", twoSlips(func(d *slip.Day) { d.Slips[0].Price = note("78/1") }), 0, 1, false},
		{"a value of both numbers", twoSlips(func(d *slip.Day) { d.Slips[0].Number = note("1") }), 0, 1, true},
		{"no value of both numbers", twoSlips(func(d *slip.Day) { d.Slips[0].Number = note("3") }), 0, 1, false},
		{"a price as number, a number as price", twoSlips(func(d *slip.Day) { d.Slips[0].Price, d.Slips[0].Number = note("7"), note("78") }), 0, 1, false},
		{"prices that contradict themselves", twoSlips(func(d *slip.Day) { d.Slips[0].Price, d.Slips[1].Price = note("1", "3"), note("1", "3") }), 0, 1, false},
		{"numbers that contradict themselves", twoSlips(func(d *slip.Day) { d.Slips[0].Number, d.Slips[1].Number = note("05"), note("05") }), 0, 1, false},
		{"a check figure that rules the value out", twoSlips(func(d *slip.Day) { d.Slips[0].Price, d.Slips[1].Price.Check = note("73"), 0 }), 0, 1, false},
		{"a check figure that leaves it", twoSlips(func(d *slip.Day) { d.Slips[0].Price, d.Slips[1].Price.Check = note("73"), 1 }), 0, 1, true},
		{"minutes that differ by 3", twoSlips(func(d *slip.Day) { d.Late = 3 }), 0, 1, true},
		{"minutes that differ by more than 2", twoSlips(func(d *slip.Day) { d.Late = 2 }), 0, 1, false},
		{"the later one first", twoSlips(func(d *slip.Day) { d.Slips[0].Minute = to(24, 30) }), 0, 1, false},
		{"the later one first, by 3", twoSlips(func(d *slip.Day) { d.Slips[0].Minute = to(23, 30) }), 0, 1, true},
		{"a minute that is in both", twoSlips(func(d *slip.Day) { d.Slips[0].Minute, d.Late = to(0, 15), 0 }), 0, 1, true},
		{"minutes within others", twoSlips(func(d *slip.Day) { d.Slips[0].Minute, d.Late = to(17, 18), 0 }), 0, 1, true},
		{"minutes around others", twoSlips(func(d *slip.Day) { d.Slips[0].Minute, d.Late = to(0, 300), 0 }), 0, 1, true},
		{"minutes that end before others", twoSlips(func(d *slip.Day) { d.Slips[0].Minute, d.Late = to(0, 14), 0 }), 0, 1, false},
		{"the first and the last minute", twoSlips(func(d *slip.Day) {
			d.Slips[0].Minute, d.Slips[1].Minute, d.Late = to(0, 0), to(300, 300), 30
		}), 0, 1, false},
	} {
		for _, p := range [][2]int{{x.a, x.b}, {x.b, x.a}} {
			if got, e := slip.Can(x.d, p[0], p[1]); got != x.want || e != api.OK {
				t.Errorf("Can, %s, %v: %v, %v", x.name, p, got, e)
			}
			_, _, e := slip.Deal(x.d, p[0], p[1])
			if (e == api.OK) != x.want || !x.want && e != api.ErrFalse {
				t.Errorf("Deal, %s, %v: %v", x.name, p, e)
			}
		}
	}
}

func TestP3_1CheckDay(t *testing.T) {
	if e := slip.CheckDay(exampleDay(2)); e != api.OK {
		t.Errorf("CheckDay of the example: %v", e)
	}
	for _, x := range validChanges() {
		d := exampleDay(2)
		x.change(&d)
		if e := slip.CheckDay(d); e != api.OK {
			t.Errorf("CheckDay, %s: %v", x.name, e)
		}
	}
	for _, x := range wrongChanges() {
		d := exampleDay(2)
		x.change(&d)
		if e := slip.CheckDay(d); e != x.e {
			t.Errorf("CheckDay, %s: %v; want %v", x.name, e, x.e)
		}
	}
}

func TestP3_2Deal(t *testing.T) {
	for _, x := range []struct {
		name            string
		d               slip.Day
		a, b            int
		prices, numbers []int
	}{
		{"the example's 0 and 1", exampleDay(2), 0, 1, []int{363}, []int{800}},
		{"the example's 0 and 2", exampleDay(2), 0, 2, []int{363}, []int{800}},
		{"two slips", twoSlips(func(d *slip.Day) {}), 0, 1, []int{144, 584, 624}, []int{8, 56}},
		{"one price", twoSlips(func(d *slip.Day) { d.Slips[1].Price = note("73") }), 0, 1, []int{584}, []int{8, 56}},
		{"one number", twoSlips(func(d *slip.Day) { d.Slips[0].Number = note("1") }), 0, 1, []int{144, 584, 624}, []int{8}},
		{"a check figure that one price has", twoSlips(func(d *slip.Day) { d.Slips[0].Price.Check = 0 }), 0, 1, []int{144}, []int{8, 56}},
		{"another clerk's price", twoSlips(func(d *slip.Day) { d.Slips[0].Price.Readings[0].Clerk = 1 }), 0, 1, []int{624}, []int{8, 56}},
		{"another clerk's number", twoSlips(func(d *slip.Day) { d.Slips[1].Number.Readings[0].Clerk = 1 }), 0, 1, []int{144, 584, 624}, []int{56}},
		{"readings of several clerks", twoSlips(func(d *slip.Day) {
			d.Slips[1].Price.Readings = append(d.Slips[1].Price.Readings, hand.Reading{Clerk: 1, Text: "18"})
		}), 0, 1, []int{144, 624}, []int{8, 56}},
		{"a price and a number of 0", twoSlips(func(d *slip.Day) {
			d.Slips[0].Price, d.Slips[0].Number = note("0"), note("0/1")
			d.Slips[1].Price, d.Slips[1].Number = note("0"), note("0/1")
		}), 0, 1, []int{0}, []int{1}},
		{"the greatest values, and 9999/1", twoSlips(func(d *slip.Day) {
			d.Slips[0].Price, d.Slips[0].Number = note("9999/7"), note("9999")
			d.Slips[1].Price, d.Slips[1].Number = note("9999/7"), note("9999")
		}), 0, 1, []int{api.MaxHandValue - 6, api.MaxHandValue}, []int{api.MaxHandValue - 7}},
	} {
		for _, p := range [][2]int{{x.a, x.b}, {x.b, x.a}} {
			prices, numbers, e := slip.Deal(x.d, p[0], p[1])
			if !slices.Equal(prices, x.prices) || !slices.Equal(numbers, x.numbers) || e != api.OK {
				t.Errorf("Deal, %s, %v: %v, %v, %v; want %v, %v", x.name, p, prices, numbers, e, x.prices, x.numbers)
			}
		}
	}
}

// path is a day on which each slip but the first and the last one can be the
// partner of two: 0-1, 1-2, and so on, up to the last one of so many.
func path(slips int) slip.Day {
	d := slip.Day{Hand: exampleHand(), Houses: 2, Signs: [][]int{{1}, {0}}}
	for i := range slips {
		s := slip.Slip{House: i % 2, Bought: i%2 == 0, Sign: i % 2, Price: note("5"), Number: note("1"), Minute: to(10*i, 10*i+10)}
		d.Slips = append(d.Slips, s)
	}
	return d
}

// star is a day on which the slip 0 can be the partner of each other one.
func star(slips int) slip.Day {
	d := path(1)
	for range slips - 1 {
		d.Slips = append(d.Slips, sold(1, 1, note("5"), note("1"), to(0, 0)))
	}
	return d
}

// matched is a day with what is due of it.
type matched struct {
	name           string
	d              slip.Day
	many           int
	cover          []int // if only one is as short
	sure, possible [][]int
	makers         [][]int // of each slip; nil, if it cannot be left over
}

func allMatched() []matched {
	return []matched{
		{"the example", exampleDay(2), 1, []int{0}, nil, [][]int{{0, 1}, {0, 2}}, [][]int{nil, {0}, {0, 1}}},
		{"the example with Late 1", exampleDay(1), 1, nil, [][]int{{0, 2}}, [][]int{{0, 2}}, [][]int{nil, {0}, nil}},
		{"the example with Late 0", exampleDay(0), 0, []int{}, nil, nil, [][]int{{1, 2}, {0}, {0, 1}}},
		{"no slips", path(0), 0, []int{}, nil, nil, nil},
		{"one slip", path(1), 0, []int{}, nil, nil, [][]int{{1}}},
		{"two slips", path(2), 1, nil, [][]int{{0, 1}}, [][]int{{0, 1}}, [][]int{nil, nil}},
		{"a path of three", path(3), 1, []int{1}, nil, [][]int{{0, 1}, {1, 2}}, [][]int{{1}, nil, {1}}},
		{"a path of four", path(4), 2, nil, [][]int{{0, 1}, {2, 3}}, [][]int{{0, 1}, {2, 3}}, [][]int{nil, nil, nil, nil}},
		{"a path of five", path(5), 2, []int{1, 3}, nil, [][]int{{0, 1}, {1, 2}, {2, 3}, {3, 4}}, [][]int{{1}, nil, {1}, nil, {1}}},
		{
			"a path of eight", path(8), 4, nil,
			[][]int{{0, 1}, {2, 3}, {4, 5}, {6, 7}}, [][]int{{0, 1}, {2, 3}, {4, 5}, {6, 7}}, make([][]int, 8),
		},
		{
			"a star", star(8), 1, []int{0},
			nil, [][]int{{0, 1}, {0, 2}, {0, 3}, {0, 4}, {0, 5}, {0, 6}, {0, 7}}, [][]int{nil, {0}, {0}, {0}, {0}, {0}, {0}, {0}},
		},
	}
}

func TestP3_3Match(t *testing.T) {
	for _, x := range allMatched() {
		l, e := slip.Match(x.d)
		if len(l) != len(x.d.Slips) || e != api.OK || !slip.ProveMatch(x.d, l, x.many) || slip.ProveMatch(x.d, l, x.many+1) {
			t.Errorf("Match, %s: %v, %v; want %d pairs", x.name, l, e, x.many)
		}
	}
}

func TestP3_3ProveMatch(t *testing.T) {
	for _, x := range []struct {
		name string
		d    slip.Day
		l    []int
		many int
		want bool
	}{
		{"a pair", exampleDay(2), []int{1, 0, -1}, 1, true},
		{"another pair", exampleDay(2), []int{2, -1, 0}, 1, true},
		{"fewer are asked for", exampleDay(2), []int{1, 0, -1}, 0, true},
		{"below 0 are asked for", exampleDay(2), []int{1, 0, -1}, -1 << 63, true},
		{"more are asked for", exampleDay(2), []int{1, 0, -1}, 2, false},
		{"far more are asked for", exampleDay(2), []int{1, 0, -1}, 1<<63 - 1, false},
		{"no pair", exampleDay(2), []int{-1, -1, -1}, 0, true},
		{"no pair, and one is asked for", exampleDay(2), []int{-1, -1, -1}, 1, false},
		{"no slips", path(0), nil, 0, true},
		{"no slips, one partner", path(0), []int{-1}, 0, false},
		{"a slip too few", exampleDay(2), []int{1, 0}, 1, false},
		{"a slip too many", exampleDay(2), []int{1, 0, -1, -1}, 1, false},
		{"none at all", exampleDay(2), nil, 0, false},
		{"not in return", exampleDay(2), []int{1, -1, -1}, 0, false},
		{"another one in return", path(4), []int{1, 2, 1, -1}, 0, false},
		{"two have the same one", exampleDay(2), []int{1, 0, 0}, 0, false},
		{"the two have the same one, the other in return", exampleDay(2), []int{2, 0, 0}, 0, false},
		{"a ring", path(8), []int{1, 2, 3, 4, 5, 6, 7, 0}, 0, false},
		{"slips that cannot be partners", exampleDay(2), []int{-1, 2, 1}, 0, false},
		{"slips that cannot be partners with another Late", exampleDay(1), []int{1, 0, -1}, 0, false},
		{"its own partner", exampleDay(2), []int{0, -1, -1}, 0, false},
		{"no slip and not None", exampleDay(2), []int{1, 0, -2}, 0, false},
		{"no such slip", exampleDay(2), []int{3, -1, -1}, 0, false},
		{"no such slip of eight", path(8), []int{8, -1, -1, -1, -1, -1, -1, -1}, 0, false},
		{"a slip that is far away", exampleDay(2), []int{1<<63 - 1, -1, -1 << 63}, 0, false},
		{"two pairs", path(5), []int{-1, 2, 1, 4, 3}, 2, true},
		{"a day that is not valid", exampleDay(31), []int{1, 0, -1}, 0, false},
		{"a hand that is not valid", slip.Day{}, nil, 0, false},
	} {
		if got := slip.ProveMatch(x.d, x.l, x.many); got != x.want {
			t.Errorf("ProveMatch, %s: %v", x.name, got)
		}
	}
}

func TestP3_4Cover(t *testing.T) {
	for _, x := range allMatched() {
		l, e := slip.Cover(x.d)
		if len(l) != x.many || e != api.OK || !slip.ProveCover(x.d, l, x.many) || slip.ProveCover(x.d, l, x.many-1) {
			t.Errorf("Cover, %s: %v, %v; want %d slips", x.name, l, e, x.many)
		}
		if x.cover != nil && !slices.Equal(l, x.cover) {
			t.Errorf("Cover, %s: %v; want %v", x.name, l, x.cover)
		}
	}
}

func TestP3_4ProveCover(t *testing.T) {
	for _, x := range []struct {
		name string
		d    slip.Day
		l    []int
		many int
		want bool
	}{
		{"one slip", exampleDay(2), []int{0}, 1, true},
		{"more may be", exampleDay(2), []int{0}, 1<<63 - 1, true},
		{"fewer may be", exampleDay(2), []int{0}, 0, false},
		{"below 0 may be", exampleDay(2), []int{0}, -1 << 63, false},
		{"the others", exampleDay(2), []int{1, 2}, 2, true},
		{"all", exampleDay(2), []int{0, 1, 2}, 3, true},
		{"one of the others", exampleDay(2), []int{1}, 3, false},
		{"the other one", exampleDay(2), []int{2}, 3, false},
		{"the other one with Late 1", exampleDay(1), []int{2}, 1, true},
		{"none", exampleDay(2), nil, 3, false},
		{"none with Late 0", exampleDay(0), nil, 0, true},
		{"none, and below 0 may be", exampleDay(0), nil, -1, false},
		{"no slips", path(0), []int{}, 0, true},
		{"no slips, and one", path(0), []int{0}, 1, false},
		{"not increasing", exampleDay(2), []int{2, 1}, 3, false},
		{"a slip twice", exampleDay(2), []int{0, 0}, 3, false},
		{"no such slip", exampleDay(2), []int{0, 3}, 3, false},
		{"a slip below 0", exampleDay(2), []int{-1, 0}, 3, false},
		{"a slip that is far away", exampleDay(2), []int{0, 1<<63 - 1}, 3, false},
		{"a path with a gap", path(5), []int{1}, 5, false},
		{"a path", path(5), []int{1, 3}, 2, true},
		{"a day that is not valid", exampleDay(31), []int{0}, 1, false},
		{"a hand that is not valid", slip.Day{}, nil, 0, false},
	} {
		if got := slip.ProveCover(x.d, x.l, x.many); got != x.want {
			t.Errorf("ProveCover, %s: %v", x.name, got)
		}
	}
}

func TestP3_5SureAndPossible(t *testing.T) {
	for _, x := range allMatched() {
		if l, e := slip.Sure(x.d); !isSame(l, x.sure) || e != api.OK {
			t.Errorf("Sure, %s: %v, %v; want %v", x.name, l, e, x.sure)
		}
		if l, e := slip.Possible(x.d); !isSame(l, x.possible) || e != api.OK {
			t.Errorf("Possible, %s: %v, %v; want %v", x.name, l, e, x.possible)
		}
	}
}

func TestP3_6Makers(t *testing.T) {
	for _, x := range allMatched() {
		for i, due := range x.makers {
			want := api.OK
			if due == nil {
				want = api.ErrNone
			}
			if l, e := slip.Makers(x.d, i); !slices.Equal(l, due) || e != want {
				t.Errorf("Makers, %s, %d: %v, %v; want %v", x.name, i, l, e, due)
			}
		}
	}
}

// TestP3_6Signs: the makers are those of the sign, whether or not they wrote slips.
func TestP3_6Signs(t *testing.T) {
	for _, x := range []struct {
		sign, due []int
	}{
		{nil, nil},
		{[]int{2}, nil},
		{[]int{0}, []int{0}},
		{[]int{2, 5}, []int{5}},
		{[]int{0, 1, 2, 3, 4, 5}, []int{0, 1, 3, 4, 5}},
	} {
		d := slip.Day{Hand: exampleHand(), Houses: 6, Signs: [][]int{{1}, x.sign}}
		d.Slips = []slip.Slip{bought(2, 1, note("5"), note("1"), to(0, 0))}
		if l, e := slip.Makers(d, 0); !slices.Equal(l, x.due) || e != api.OK {
			t.Errorf("Makers with the sign %v: %v, %v", x.sign, l, e)
		}
	}
}
