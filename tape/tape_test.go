package tape_test

import (
	"slices"
	"strings"
	"testing"

	"contango/api"
	"contango/tape"
)

// to returns a range.
func to(low, high int) tape.Range { return tape.Range{Lo: low, Hi: high} }

// one returns the range of one number.
func one(n int) tape.Range { return to(n, n) }

// exampleBoard is the board of the chapter's examples.
func exampleBoard() tape.Board {
	return tape.Board{Stocks: []tape.Stock{{Name: "AB", Start: to(300, 310)}, {Name: "C", Start: to(75, 79)}}, Jump: 10, Small: 4}
}

// wideBoard has a stock whose price before the tape is hardly known.
func wideBoard() tape.Board {
	return tape.Board{Stocks: []tape.Stock{{Name: "X", Start: to(100, 300)}, {Name: "L", Start: one(1)}, {Name: "LL", Start: one(799)}}, Jump: 40, Small: 9}
}

// The tapes of the chapter's examples: of the first one no minutes are right.
const (
	exampleTape = "@5 AB 3s 8.2 8.5 L1-2 C 0.1 ! @7 0.7 ?"
	rightTape   = "@5 AB 3s 8.2 L1-2 @7 8.5 C 0.1 ! @8 0.7 ?"
)

// short returns the print of one hundred by a short price, at the minute 0.
func short(stock, figures int) tape.Print {
	return tape.Print{Stock: stock, Number: one(1), Figures: figures}
}

// full returns the same by a full price.
func full(stock, price int) tape.Print {
	return tape.Print{Stock: stock, Number: one(1), Figures: price, Full: true}
}

// numbered returns the print with another number.
func numbered(p tape.Print, number tape.Range) tape.Print {
	p.Number = number
	return p
}

// timed returns the print with another minute and lateness.
func timed(p tape.Print, minute int, late tape.Range) tape.Print {
	p.Minute, p.Late = minute, late
	return p
}

func TestP2_1CheckBoard(t *testing.T) {
	for _, x := range []struct {
		name   string
		change func(b *tape.Board)
		e      api.Errno
	}{
		{"the example", func(b *tape.Board) {}, api.OK},
		{"one stock", func(b *tape.Board) { b.Stocks = b.Stocks[:1] }, api.OK},
		{"four stocks, all prices", func(b *tape.Board) {
			b.Stocks = []tape.Stock{{"A", to(1, 799)}, {"AA", one(1)}, {"AAA", one(799)}, {"Z", to(799, 799)}}
		}, api.OK},
		{"the least numbers", func(b *tape.Board) { b.Jump, b.Small = 0, 1 }, api.OK},
		{"the greatest numbers", func(b *tape.Board) { b.Jump, b.Small = 40, 9 }, api.OK},
		{"five stocks", func(b *tape.Board) { b.Stocks = make([]tape.Stock, 5) }, api.ErrLimit},
		{"ErrLimit before ErrArg", func(b *tape.Board) { b.Stocks, b.Jump = make([]tape.Stock, 5), -1 }, api.ErrLimit},
		{"no stock", func(b *tape.Board) { b.Stocks = nil }, api.ErrArg},
		{"Jump below 0", func(b *tape.Board) { b.Jump = -1 }, api.ErrArg},
		{"Jump above 40", func(b *tape.Board) { b.Jump = 41 }, api.ErrArg},
		{"Small below 1", func(b *tape.Board) { b.Small = 0 }, api.ErrArg},
		{"Small above 9", func(b *tape.Board) { b.Small = 10 }, api.ErrArg},
		{"no name", func(b *tape.Board) { b.Stocks[1].Name = "" }, api.ErrArg},
		{"four letters", func(b *tape.Board) { b.Stocks[1].Name = "ABCD" }, api.ErrArg},
		{"a small letter", func(b *tape.Board) { b.Stocks[1].Name = "Ab" }, api.ErrArg},
		{"a digit", func(b *tape.Board) { b.Stocks[1].Name = "A1" }, api.ErrArg},
		{"the sign before A", func(b *tape.Board) { b.Stocks[1].Name = "@" }, api.ErrArg},
		{"the sign after Z", func(b *tape.Board) { b.Stocks[1].Name = "[" }, api.ErrArg},
		{"a blank", func(b *tape.Board) { b.Stocks[1].Name = "C " }, api.ErrArg},
		{"a letter of two bytes", func(b *tape.Board) { b.Stocks[1].Name = "\u00c4" }, api.ErrArg},
		{"the same name", func(b *tape.Board) { b.Stocks[1].Name = "AB" }, api.ErrArg},
		{"Start from 0", func(b *tape.Board) { b.Stocks[1].Start = to(0, 5) }, api.ErrArg},
		{"Start to 800", func(b *tape.Board) { b.Stocks[0].Start = to(5, 800) }, api.ErrArg},
		{"Start turned round", func(b *tape.Board) { b.Stocks[0].Start = to(6, 5) }, api.ErrArg},
	} {
		b := exampleBoard()
		x.change(&b)
		if e := tape.CheckBoard(b); e != x.e {
			t.Errorf("CheckBoard of %s: %v; want %v", x.name, e, x.e)
		}
	}
}

func TestP2_1Read(t *testing.T) {
	calm := one(0)
	for _, x := range []struct {
		b    tape.Board
		tape string
		want []tape.Print
	}{
		{exampleBoard(), exampleTape, []tape.Print{
			numbered(timed(short(0, 66), 5, calm), one(3)),
			timed(short(0, 69), 5, calm),
			timed(short(1, 1), 5, to(1, 2)),
			numbered(timed(short(1, 7), 7, to(1, 2)), to(1, 4)),
		}},
		{exampleBoard(), "", nil},
		{exampleBoard(), "AB C ! ? ! @600 L0-60 L60-60", nil},
		{exampleBoard(), "AB $38.2 8.2", []tape.Print{full(0, 306), short(0, 66)}},
		{exampleBoard(), "C $0.1 $99.7 $1.0", []tape.Print{full(1, 1), full(1, 799), full(1, 8)}},
		{exampleBoard(), "C 0.0 9.7", []tape.Print{short(1, 0), short(1, 79)}},
		{exampleBoard(), "AB 99s 0.0 0.0", []tape.Print{numbered(short(0, 0), one(99)), short(0, 0)}},
		{exampleBoard(), "AB ! 99s 0.0 1s 0.0 0.0 ? 0.0", []tape.Print{numbered(short(0, 0), one(99)), short(0, 0), numbered(short(0, 0), to(1, 4)), short(0, 0)}},
		{wideBoard(), "L 0.1 LL 0.2 L1-1 0.3 L 0.4", []tape.Print{short(1, 1), short(2, 2), timed(short(2, 3), 0, one(1)), timed(short(1, 4), 0, one(1))}},
		{exampleBoard(), "@0 @3 @3 C 9.7", []tape.Print{timed(short(1, 79), 3, calm)}},
		{exampleBoard(), "AB" + strings.Repeat(" 8.2", 8), slices.Repeat([]tape.Print{short(0, 66)}, 8)},
		{exampleBoard(), strings.Repeat("AB C ", 31) + "AB C", nil},
		{exampleBoard(), strings.Repeat("AB ", 53) + "C", nil},
	} {
		if l, e := tape.Read(x.b, x.tape); !slices.Equal(l, x.want) || e != api.OK {
			t.Errorf("Read of %q: %v, %v; want %v", x.tape, l, e, x.want)
		}
	}
}

func TestP2_2Prices(t *testing.T) {
	floor := tape.Board{Stocks: []tape.Stock{{Name: "X", Start: to(1, 5)}, {Name: "Y", Start: one(799)}}, Jump: 2, Small: 1}
	still := tape.Board{Stocks: []tape.Stock{{Name: "X", Start: to(66, 150)}}, Jump: 0, Small: 1}
	for _, x := range []struct {
		name string
		b    tape.Board
		tape string
		want []tape.Range
	}{
		{"the example", exampleBoard(), exampleTape, []tape.Range{one(306), one(309), one(81), one(87)}},
		{"no sales", exampleBoard(), "AB", nil},
		{"below Start by Jump", exampleBoard(), "AB 6.2", []tape.Range{one(290)}},
		{"above Start by Jump", exampleBoard(), "AB 0.0", []tape.Range{one(320)}},
		{"from Start", wideBoard(), "X 0.0", []tape.Range{to(80, 320)}},
		{"a later sale", wideBoard(), "X 0.0 5.0", []tape.Range{to(80, 320), to(40, 360)}},
		{"a full price after it", wideBoard(), "X 0.0 $20.0", []tape.Range{one(160), one(160)}},
		{"a full price before it", wideBoard(), "X $25.0 5.0 0.0", []tape.Range{one(200), one(200), to(160, 240)}},
		{"a full price much later", wideBoard(), "X 0.0 5.0 0.0 $35.0", []tape.Range{to(160, 320), to(200, 360), to(240, 320), one(280)}},
		{"stocks by themselves", wideBoard(), "X 5.0 LL 9.6 X 0.0", []tape.Range{to(120, 280), one(798), to(80, 320)}},
		{"the first price", floor, "X 0.1 0.3", []tape.Range{one(1), one(3)}},
		{"the last price", floor, "Y 9.5 9.7 9.7", []tape.Range{one(797), one(799), one(799)}},
		{"no jump", still, "X 8.2", []tape.Range{to(66, 146)}},
		{"no jump, twice", still, "X 8.2 8.2", []tape.Range{to(66, 146), to(66, 146)}},
	} {
		if l, e := tape.Prices(x.b, x.tape); !slices.Equal(l, x.want) || e != api.OK {
			t.Errorf("Prices, %s: %v, %v; want %v", x.name, l, e, x.want)
		}
	}
	for _, x := range []struct {
		name string
		b    tape.Board
		tape string
	}{
		{"below Start by more than Jump", exampleBoard(), "AB 6.1"},
		{"above Start by more than Jump", exampleBoard(), "AB 0.1"},
		{"no price 0", wideBoard(), "L 0.0"},
		{"no price above 799", wideBoard(), "LL 9.7 0.0"},
		{"too far from the sale before", exampleBoard(), "AB 8.2 8.5 0.0"},
		{"another stock has a truth", exampleBoard(), "C 0.0 AB 6.1 C 0.0"},
		{"no jump, but another price", still, "X 8.2 8.3"},
		{"a full price after it", exampleBoard(), "AB 8.2 $39.5"},
		{"a full price before it", exampleBoard(), "AB $38.2 9.5"},
	} {
		if l, e := tape.Prices(x.b, x.tape); l != nil || e != api.ErrFalse {
			t.Errorf("Prices, %s: %v, %v", x.name, l, e)
		}
	}
}

func TestP2_2Show(t *testing.T) {
	for _, x := range []struct {
		b    tape.Board
		tape string
		sale int
		high bool
		want []int
		e    api.Errno
	}{
		{exampleBoard(), exampleTape, 0, true, []int{306, 309, 81, 87}, api.OK},
		{exampleBoard(), exampleTape, 3, false, []int{306, 309, 81, 87}, api.OK},
		{wideBoard(), "X 0.0 5.0", 0, false, []int{80, 40}, api.OK},
		{wideBoard(), "X 0.0 5.0", 0, true, []int{320, 280}, api.OK},
		{wideBoard(), "X 0.0 5.0", 1, false, []int{80, 40}, api.OK},
		{wideBoard(), "X 0.0 5.0", 1, true, []int{320, 360}, api.OK},
		{wideBoard(), "X 0.0 5.0 0.0", 2, true, []int{320, 360, 400}, api.OK},
		{wideBoard(), "X 0.0 5.0 0.0 5.0", 2, true, []int{320, 360, 400, 360}, api.OK},
		{wideBoard(), "X 0.0 LL 9.6 X 5.0 LL 9.5", 1, true, []int{80, 798, 40, 797}, api.OK},
		{wideBoard(), "X 0.0 5.0 $35.0", 0, false, []int{240, 280, 280}, api.OK},
		{wideBoard(), "X 0.0 5.0 $35.0", 0, true, []int{320, 280, 280}, api.OK},
		{exampleBoard(), "AB 6.1", 0, true, nil, api.ErrFalse},
		{exampleBoard(), "AB 6.2 C 0.0 8.0", 0, true, nil, api.ErrFalse},
	} {
		if l, e := tape.Show(x.b, x.tape, x.sale, x.high); !slices.Equal(l, x.want) || e != x.e {
			t.Errorf("Show of %q, %d, %v: %v, %v; want %v, %v", x.tape, x.sale, x.high, l, e, x.want, x.e)
		}
	}
}

func TestP2_3Minutes(t *testing.T) {
	for _, x := range []struct {
		tape string
		want []tape.Range
		e    api.Errno
	}{
		{exampleTape, nil, api.ErrFalse},
		{rightTape, []tape.Range{one(5), to(5, 6), to(5, 6), to(6, 7)}, api.OK},
		{"", nil, api.OK},
		{"AB 8.2", []tape.Range{one(0)}, api.OK},
		{"L2-9 AB 8.2 @3 8.2", []tape.Range{to(-9, -2), to(-6, 1)}, api.OK},
		{"@9 L0-9 AB 8.2 L3-9 C 8.2", []tape.Range{to(0, 6), to(0, 6)}, api.OK},
		{"@9 L2-3 AB 8.2 L0-9 8.2 L0-0 8.2", []tape.Range{to(6, 7), to(6, 9), one(9)}, api.OK},
		{"@9 L0-9 AB 8.2 L4-4 8.2", []tape.Range{to(0, 5), one(5)}, api.OK},
		{"@9 L4-4 AB 8.2 L5-5 8.2", nil, api.ErrFalse},
		{"@9 AB 8.2 L0-9 8.2 L3-9 8.2", nil, api.ErrFalse},
		{"@600 L0-60 AB 8.2 L60-60 8.2", []tape.Range{one(540), one(540)}, api.OK},
		{"AB 6.1", []tape.Range{one(0)}, api.OK},
	} {
		if l, e := tape.Minutes(exampleBoard(), x.tape); !slices.Equal(l, x.want) || e != x.e {
			t.Errorf("Minutes of %q: %v, %v; want %v, %v", x.tape, l, e, x.want, x.e)
		}
	}
}

// slip returns a slip.
func slip(stock, price, number int, minutes tape.Range) tape.Slip {
	return tape.Slip{Stock: stock, Price: price, Number: number, Minutes: minutes}
}

func TestP2_4Find(t *testing.T) {
	for _, x := range []struct {
		name string
		b    tape.Board
		tape string
		slip tape.Slip
		want []int
		e    api.Errno
	}{
		{"the example", exampleBoard(), rightTape, slip(0, 309, 1, to(6, 9)), []int{1}, api.OK},
		{"too late", exampleBoard(), rightTape, slip(0, 309, 1, to(7, 9)), nil, api.OK},
		{"too early", exampleBoard(), rightTape, slip(0, 309, 1, to(0, 4)), nil, api.OK},
		{"the last minute", exampleBoard(), rightTape, slip(0, 309, 1, to(0, 5)), []int{1}, api.OK},
		{"another number", exampleBoard(), rightTape, slip(0, 309, 2, to(0, 600)), nil, api.OK},
		{"another price", exampleBoard(), rightTape, slip(0, 389, 1, to(0, 600)), nil, api.OK},
		{"another stock", exampleBoard(), rightTape, slip(1, 309, 1, to(0, 600)), nil, api.OK},
		{"a printed number", exampleBoard(), rightTape, slip(0, 306, 3, one(5)), []int{0}, api.OK},
		{"the greatest number of a rush", exampleBoard(), rightTape, slip(1, 87, 4, one(7)), []int{3}, api.OK},
		{"the least number of a rush", exampleBoard(), rightTape, slip(1, 87, 1, one(6)), []int{3}, api.OK},
		{"more than in a rush", exampleBoard(), rightTape, slip(1, 87, 5, one(7)), nil, api.OK},
		{"several sales", wideBoard(), "X 0.0 5.0 0.0", slip(0, 240, 1, one(0)), []int{0, 2}, api.OK},
		{"within the bounds, but in no truth", wideBoard(), "X 0.0 5.0", slip(0, 239, 1, one(0)), nil, api.OK},
		{"not with the other prices", wideBoard(), "X 0.0 $30.0", slip(0, 160, 1, one(0)), nil, api.OK},
		{"no sales", wideBoard(), "X", slip(0, 160, 1, one(0)), nil, api.OK},
		{"no right minutes", exampleBoard(), exampleTape, slip(0, 309, 1, to(6, 9)), nil, api.ErrFalse},
		{"no truth", exampleBoard(), "C 0.0 AB 6.1", slip(1, 80, 1, one(0)), nil, api.ErrFalse},
	} {
		if l, e := tape.Find(x.b, x.tape, x.slip); !slices.Equal(l, x.want) || e != x.e {
			t.Errorf("Find, %s: %v, %v; want %v, %v", x.name, l, e, x.want, x.e)
		}
	}
}

func TestP2_5Misprints(t *testing.T) {
	for _, x := range []struct {
		name string
		b    tape.Board
		tape string
		want []int
	}{
		{"the example", exampleBoard(), "AB 8.2 3.0 8.5", []int{1}},
		{"a truth", exampleBoard(), exampleTape, nil},
		{"no right minutes", exampleBoard(), "@9 AB 8.2 L5-5 8.2", nil},
		{"no sales", exampleBoard(), "", nil},
		{"the only sale", exampleBoard(), "AB $0.5", []int{0}},
		{"the first one of two", exampleBoard(), "AB 6.2 8.2", []int{0}},
		{"the smaller one at the first index", exampleBoard(), "AB 8.2 C 0.0 AB 0.4 C 2.0", []int{0, 1}},
		{"one of each stock", exampleBoard(), "AB 8.2 C 3.0 AB 0.0 C 0.0", []int{0, 1}},
		{"not the first indexes", exampleBoard(), "AB 8.2 3.0 8.5 3.0 8.2", []int{1, 3}},
		{"two jumps", exampleBoard(), "AB $39.0 3.0 $41.4", []int{1}},
		{"more than two jumps", exampleBoard(), "AB $39.0 3.0 $41.5", []int{0, 1}},
		{"what the others leave", exampleBoard(), "AB 0.0 $41.5 $43.0", []int{1, 2}},
		{"all of them", exampleBoard(), "AB" + strings.Repeat(" $1.0", 8), []int{0, 1, 2, 3, 4, 5, 6, 7}},
	} {
		if l, e := tape.Misprints(x.b, x.tape); !slices.Equal(l, x.want) || e != api.OK {
			t.Errorf("Misprints, %s: %v, %v; want %v", x.name, l, e, x.want)
		}
	}
}

// sold returns a sale to be written.
func sold(stock, number, price, minute int) tape.Sale {
	return tape.Sale{Stock: stock, Number: number, Price: price, Minute: minute}
}

func TestP2_6Write(t *testing.T) {
	for _, x := range []struct {
		name string
		b    tape.Board
		l    []tape.Sale
		want string
	}{
		{"the example", exampleBoard(), []tape.Sale{sold(0, 3, 306, 5), sold(0, 1, 309, 5), sold(1, 1, 81, 7)}, "@5 AB 3s 8.2 8.5 @7 C 0.1"},
		{"nothing", exampleBoard(), nil, ""},
		{"the least numbers", exampleBoard(), []tape.Sale{sold(0, 1, 1, 0)}, "AB 0.1"},
		{"the greatest numbers", exampleBoard(), []tape.Sale{sold(1, 99, 799, 600)}, "@600 C 99s 9.7"},
		{"figures without a whole", exampleBoard(), []tape.Sale{sold(1, 1, 80, 0), sold(1, 1, 8, 0)}, "C 0.0 1.0"},
		{"a stock again", exampleBoard(), []tape.Sale{sold(1, 2, 80, 0), sold(0, 1, 1, 0), sold(1, 1, 8, 600)}, "C 2s 0.0 AB 0.1 @600 C 1.0"},
		{"prices that do not keep the Jump", exampleBoard(), []tape.Sale{sold(0, 1, 1, 0), sold(0, 1, 799, 0)}, "AB 0.1 9.7"},
		{"the minute before the name", wideBoard(), []tape.Sale{sold(2, 1, 3, 1), sold(1, 1, 3, 2)}, "@1 LL 0.3 @2 L 0.3"},
		{"no rush", tape.Board{Stocks: exampleBoard().Stocks, Small: 1}, slices.Repeat([]tape.Sale{sold(0, 1, 1, 0)}, 8), "AB" + strings.Repeat(" 0.1", 8)},
		{"eight sales", exampleBoard(), slices.Repeat([]tape.Sale{sold(0, 10, 79, 600)}, 8), "@600 AB" + strings.Repeat(" 10s 9.7", 8)},
	} {
		if s, e := tape.Write(x.b, x.l); s != x.want || e != api.OK {
			t.Errorf("Write, %s: %q, %v; want %q", x.name, s, e, x.want)
		}
	}
}

func TestP2_7ProveTruth(t *testing.T) {
	for _, x := range []struct {
		name   string
		b      tape.Board
		tape   string
		prices []int
		want   bool
	}{
		{"the example", exampleBoard(), exampleTape, []int{306, 309, 81, 87}, true},
		{"other figures", exampleBoard(), exampleTape, []int{306, 309, 81, 86}, false},
		{"too far from Start", exampleBoard(), exampleTape, []int{386, 389, 81, 87}, false},
		{"too far from the price before", exampleBoard(), exampleTape, []int{306, 309, 81, 167}, false},
		{"too few", exampleBoard(), exampleTape, []int{306, 309, 81}, false},
		{"too many", exampleBoard(), exampleTape, []int{306, 309, 81, 87, 87}, false},
		{"no sales", exampleBoard(), "", nil, true},
		{"no sales, but a price", exampleBoard(), "", []int{306}, false},
		{"the last price below Start", exampleBoard(), "AB 6.2", []int{290}, true},
		{"the last price above Start", exampleBoard(), "AB 0.0", []int{320}, true},
		{"one more", exampleBoard(), "AB 0.1", []int{321}, false},
		{"the full price", exampleBoard(), "AB $38.2", []int{306}, true},
		{"another price than the full one", wideBoard(), "X $25.0", []int{280}, false},
		{"no price", wideBoard(), "L 0.0", []int{0}, false},
		{"a price below 0", wideBoard(), "L 0.0", []int{-80}, false},
		{"a price above the greatest one", wideBoard(), "LL 0.0", []int{800}, false},
		{"the least number", wideBoard(), "L 0.0", []int{-1 << 63}, false},
		{"the greatest number", wideBoard(), "LL 9.7", []int{1<<63 - 1}, false},
		{"no right minutes", exampleBoard(), "@9 AB 8.2 L5-5 8.2", []int{306, 306}, true},
		{"the board is not valid", tape.Board{}, "", nil, false},
		{"the tape is not valid", exampleBoard(), "?", nil, false},
	} {
		if got := tape.ProveTruth(x.b, x.tape, x.prices); got != x.want {
			t.Errorf("ProveTruth, %s: %v", x.name, got)
		}
	}
}
