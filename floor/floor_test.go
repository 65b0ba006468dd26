package floor_test

import (
	"fmt"
	"slices"
	"testing"

	"contango/api"
	"contango/coupon"
	"contango/floor"
	"contango/hand"
	"contango/sheet"
	"contango/slip"
)

// theDay returns the session of the chapter's examples, and these lines.
func theDay(more ...string) []string {
	return append([]string{
		"clerk", "pair 0 1 7", "pair 0 3 8", "errors 1", "late 2", "sign 3", "sign 6", "sign 1",
		"slip 0 1 1 0 45/3 100 10 10", "slip 1 0 2 0 45/8 100 12 13", "slip 2 0 0 0 45/3 700 9 9",
		"sheet 0", "sheet 1", "loan 0 0 1 1 3", "pass 0 1 2 2 4", "return 1 1 0 3 5",
		"held 0 10", "trade 0 1 4 2 3 4 5", "dividend 3 4 5", "split 4 3 2", "closed 5 6",
	}, more...)
}

// same reports whether the states are the same. Nil and an empty list are.
func same(a, b floor.State) bool { return fmt.Sprintf("%+v", a) == fmt.Sprintf("%+v", b) }

// times returns so many of the line.
func times(line string, many int) []string { return slices.Repeat([]string{line}, many) }

// list returns the numbers as a list.
func list(numbers ...int) []int { return numbers }

// lists returns the lists as one.
func lists(l ...[]int) [][]int { return l }

// to returns the range of a company.
func to(low, high int) coupon.Range { return coupon.Range{Lo: low, Hi: high} }

// sameLists reports whether the lists are the same.
func sameLists(a, b [][]int) bool { return slices.EqualFunc(a, b, slices.Equal[[]int]) }

// last is a session, of which the last line has this error.
type last struct {
	lines []string
	e     api.Errno
}

// is returns the session of lines, of which the last one has the error.
func is(e api.Errno, lines ...string) last { return last{lines: lines, e: e} }

// testLast plays the sessions. A last line changes the state if and only if it is
// accepted.
func testLast(t *testing.T, all []last) {
	t.Helper()
	for _, x := range all {
		end := len(x.lines) - 1
		before, _, _ := floor.Play(x.lines[:end])
		s, errors, e := floor.Play(x.lines)
		if e != api.OK || len(errors) != len(x.lines) || errors[end] != x.e {
			t.Errorf("Play of .. %q: %v, %v; want %v", x.lines[max(end-3, 0):], errors, e, x.e)
		}
		if slices.ContainsFunc(errors[:end], func(e api.Errno) bool { return e != api.OK }) {
			t.Errorf("Play of .. %q: %v: a line before is refused", x.lines[max(end-3, 0):], errors)
		}
		if same(s, before) == (x.e == api.OK) {
			t.Errorf("Play of .. %q: %v after %v", x.lines[max(end-3, 0):], s, before)
		}
	}
}

func TestP12_1Examples(t *testing.T) {
	_, errors, e := floor.Play(theDay())
	if e != api.OK || !slices.Equal(errors, make([]api.Errno, 21)) {
		t.Errorf("Play: %v, %v", errors, e)
	}
	_, errors, e = floor.Play(theDay("drop 0", "saw 0 0 4", "held 0 3", "cancel 1", "pair 0 1 7", "split 4 1 1", "slip 0 1 1 0 45 1x 1 1", "held 0 11"))
	want := []api.Errno{api.ErrFail, api.ErrFail, api.ErrFail, api.ErrNone, api.ErrTwice, api.ErrState, api.ErrForm, api.OK}
	if e != api.OK || !slices.Equal(errors[21:], want) {
		t.Errorf("Play: %v, %v", errors, e)
	}
}

// empty returns the state at first.
func empty() floor.State {
	return floor.State{
		Day:      slip.Day{Houses: 4},
		Register: sheet.Register{Houses: 4},
		Company:  coupon.Company{Houses: 4, Held: list(0, 0, 0, 0)},
	}
}

// read returns the note of one reading.
func read(clerk int, text string) hand.Note {
	return hand.Note{Readings: []hand.Reading{{Clerk: clerk, Text: text}}, Check: hand.None}
}

// theState returns the state after the session of the examples.
func theState() floor.State {
	return floor.State{
		Day: slip.Day{
			Hand:   hand.Hand{Clerks: [][]hand.Pair{{{Written: 1, Read: 7}, {Written: 3, Read: 8}}}, Errors: 1},
			Houses: 4,
			Signs:  lists(list(0, 1), list(1, 2), list(0)),
			Slips: []slip.Slip{
				{House: 0, Bought: true, Sign: 1, Price: read(0, "45/3"), Number: read(0, "100"), Minute: slip.Range{Lo: 10, Hi: 10}},
				{House: 1, Sign: 2, Price: read(0, "45/8"), Number: read(0, "100"), Minute: slip.Range{Lo: 12, Hi: 13}},
				{House: 2, Sign: 0, Price: read(0, "45/3"), Number: read(0, "700"), Minute: slip.Range{Lo: 9, Hi: 9}},
			},
			Late: 2,
		},
		Register: sheet.Register{Houses: 4, Start: list(0, 1), Entries: []sheet.Entry{
			{Kind: sheet.Loan, Sheet: 0, From: 0, To: 1, Day: sheet.Range{Lo: 1, Hi: 3}},
			{Kind: sheet.Pass, Sheet: 0, From: 1, To: 2, Day: sheet.Range{Lo: 2, Hi: 4}},
			{Kind: sheet.Return, Sheet: 1, From: 1, To: 0, Day: sheet.Range{Lo: 3, Hi: 5}},
		}},
		Company: coupon.Company{
			Houses:    4,
			Held:      list(10, 0, 0, 0),
			Trades:    []coupon.Trade{{Seller: 0, Buyer: 1, Shares: 4, Sold: to(2, 3), Delivered: to(4, 5)}},
			Dividends: []coupon.Dividend{{Ex: 3, Record: 4, Pence: 5}},
			Splits:    []coupon.Split{{Day: 4, Num: 3, Den: 2}},
			Closed:    []coupon.Range{to(5, 6)},
		},
	}
}

func TestP12_1State(t *testing.T) {
	for _, x := range []struct {
		line   string
		change func(*floor.State)
	}{
		{"refused", func(s *floor.State) {}},
		{"clerk", func(s *floor.State) { s.Day.Hand.Clerks = append(s.Day.Hand.Clerks, nil) }},
		{"pair 0 7 1", func(s *floor.State) {
			s.Day.Hand.Clerks[0] = append(s.Day.Hand.Clerks[0], hand.Pair{Written: 7, Read: 1})
		}},
		{"errors 3", func(s *floor.State) { s.Day.Hand.Errors = 3 }},
		{"late 30", func(s *floor.State) { s.Day.Late = 30 }},
		{"sign 0", func(s *floor.State) { s.Day.Signs = append(s.Day.Signs, nil) }},
		{"sign 8", func(s *floor.State) { s.Day.Signs = append(s.Day.Signs, list(3)) }},
		{"sign 13", func(s *floor.State) { s.Day.Signs = append(s.Day.Signs, list(0, 2, 3)) }},
		{"sign 15", func(s *floor.State) { s.Day.Signs = append(s.Day.Signs, list(0, 1, 2, 3)) }},
		{"slip 3 1 2 0 05 9/0 0 300", func(s *floor.State) {
			s.Day.Slips = append(s.Day.Slips, slip.Slip{House: 3, Bought: true, Sign: 2, Price: read(0, "05"), Number: read(0, "9/0"), Minute: slip.Range{Lo: 0, Hi: 300}})
		}},
		{"void 0", func(s *floor.State) { s.Day.Slips = s.Day.Slips[1:] }},
		{"void 1", func(s *floor.State) { s.Day.Slips = slices.Delete(s.Day.Slips, 1, 2) }},
		{"void 2", func(s *floor.State) { s.Day.Slips = s.Day.Slips[:2] }},
		{"sheet 3", func(s *floor.State) { s.Register.Start = append(s.Register.Start, 3) }},
		{"pass 1 0 3 8 9", func(s *floor.State) {
			s.Register.Entries = append(s.Register.Entries, sheet.Entry{Kind: sheet.Pass, Sheet: 1, From: 0, To: 3, Day: sheet.Range{Lo: 8, Hi: 9}})
		}},
		{"loan 0 2 1 5 6", func(s *floor.State) {
			s.Register.Entries = append(s.Register.Entries, sheet.Entry{Kind: sheet.Loan, Sheet: 0, From: 2, To: 1, Day: sheet.Range{Lo: 5, Hi: 6}})
		}},
		{"drop 1", func(s *floor.State) { s.Register.Entries = slices.Delete(s.Register.Entries, 1, 2) }},
		{"drop 2", func(s *floor.State) { s.Register.Entries = s.Register.Entries[:2] }},
		{"saw 0 2 9", func(s *floor.State) {
			s.Register.Sights = append(s.Register.Sights, sheet.Sight{Sheet: 0, House: 2, Day: 9})
		}},
		{"held 0 4", func(s *floor.State) { s.Company.Held[0] = 4 }},
		{"held 3 100", func(s *floor.State) { s.Company.Held[3] = 100 }},
		{"trade 1 3 2 5 7 8 10", func(s *floor.State) {
			s.Company.Trades = append(s.Company.Trades, coupon.Trade{Seller: 1, Buyer: 3, Shares: 2, Sold: to(5, 7), Delivered: to(8, 10)})
		}},
		{"cancel 0", func(s *floor.State) { s.Company.Trades = nil }},
		{"dividend 0 11 50", func(s *floor.State) {
			s.Company.Dividends = append(s.Company.Dividends, coupon.Dividend{Ex: 0, Record: 11, Pence: 50})
		}},
		{"split 11 6 4", func(s *floor.State) {
			s.Company.Splits = append(s.Company.Splits, coupon.Split{Day: 11, Num: 6, Den: 4})
		}},
		{"closed 0 3", func(s *floor.State) { s.Company.Closed = append(s.Company.Closed, to(0, 3)) }},
	} {
		want := theState()
		x.change(&want)
		if got, _, e := floor.Play(theDay(x.line)); e != api.OK || !same(got, want) {
			t.Errorf("Play of .. %q: %+v, %v; want %+v", x.line, got, e, want)
		}
	}
	if got, errors, e := floor.Play(nil); e != api.OK || len(errors) != 0 || !same(got, empty()) {
		t.Errorf("Play of no lines: %+v, %v, %v", got, errors, e)
	}
}

// TestP12_1Removed: what is removed lowers the later numbers by 1.
func TestP12_1Removed(t *testing.T) {
	s, errors, e := floor.Play(theDay(
		"void 0", "void 1", "void 1", "drop 1", "drop 1", "drop 1", "saw 0 1 9", "saw 1 1 9", "forget 0", "forget 1", "forget 0", "forget 0",
		"trade 0 2 1 8 8 9 9", "cancel 0", "cancel 1", "cancel 0", "cancel 0",
	))
	want := []api.Errno{
		api.OK, api.OK, api.ErrNone, api.OK, api.OK, api.ErrNone, api.OK, api.OK, api.OK, api.ErrNone, api.OK, api.ErrNone,
		api.OK, api.OK, api.ErrNone, api.OK, api.ErrNone,
	}
	if e != api.OK || !slices.Equal(errors[21:], want) {
		t.Errorf("Play: %v, %v", errors[21:], e)
	}
	isLeft := len(s.Day.Slips) == 1 && s.Day.Slips[0].House == 1 && len(s.Register.Entries) == 1
	if !isLeft || s.Register.Entries[0].Kind != sheet.Loan || len(s.Register.Sights) != 0 || len(s.Company.Trades) != 0 {
		t.Errorf("Play: %+v", s)
	}
	s, _, _ = floor.Play(theDay("saw 0 2 8", "saw 0 2 9", "saw 1 0 9", "forget 1"))
	if !slices.Equal(s.Register.Sights, []sheet.Sight{{Sheet: 0, House: 2, Day: 8}, {Sheet: 1, House: 0, Day: 9}}) {
		t.Errorf("Play: %+v", s.Register.Sights)
	}
}

// someClerks returns a session with so many clerks, the first one of so many pairs.
func someClerks(clerks, pairs int, more ...string) []string {
	lines := times("clerk", clerks)
	for read := range pairs {
		lines = append(lines, fmt.Sprint("pair 0 9 ", read))
	}
	return append(lines, more...)
}

func TestP12_1Hand(t *testing.T) {
	testLast(t, []last{
		is(api.OK, "clerk"),
		is(api.OK, someClerks(2, 0, "clerk")...),
		is(api.ErrLimit, someClerks(3, 0, "clerk")...),
		is(api.ErrNone, "pair 0 1 7"),
		is(api.OK, "clerk", "pair 0 1 7"),
		is(api.OK, "clerk", "pair 0 0 9"),
		is(api.OK, "clerk", "pair 0 9 0"),
		is(api.OK, "clerk", "clerk", "clerk", "pair 2 1 7"),
		is(api.ErrNone, "clerk", "clerk", "clerk", "pair 3 1 7"),
		is(api.ErrNone, "clerk", "pair 1 1 7"),
		is(api.ErrNone, "clerk", "pair 9999 1 7"),
		is(api.ErrNone, "clerk", "pair 1 1 1"),
		is(api.ErrRange, "clerk", "pair 0 1 1"),
		is(api.ErrRange, "clerk", "pair 0 10 1"),
		is(api.ErrRange, "clerk", "pair 0 1 10"),
		is(api.ErrRange, "clerk", "pair 0 9999 9999"),
		is(api.ErrTwice, "clerk", "pair 0 1 7", "pair 0 1 7"),
		is(api.OK, "clerk", "pair 0 1 7", "pair 0 7 1"),
		is(api.OK, "clerk", "pair 0 1 7", "pair 0 1 8"),
		is(api.OK, "clerk", "pair 0 1 7", "pair 0 2 7"),
		is(api.OK, "clerk", "clerk", "pair 0 1 7", "pair 1 1 7"),
		is(api.OK, someClerks(1, 7, "pair 0 9 7")...),
		is(api.ErrLimit, someClerks(1, 8, "pair 0 9 8")...),
		is(api.OK, someClerks(2, 8, "pair 1 9 8")...),
		is(api.ErrTwice, someClerks(1, 8, "pair 0 9 7")...),
		is(api.ErrRange, someClerks(1, 8, "pair 0 9 9")...),
		is(api.ErrNone, someClerks(1, 8, "pair 1 9 8")...),
		is(api.OK, "errors 1"),
		is(api.OK, "errors 3"),
		is(api.OK, "errors 3", "errors 0"),
		is(api.ErrRange, "errors 4"),
		is(api.ErrRange, "clerk", "errors 9999"),
	})
}

// someSlips returns a session with a clerk, three signs, and so many slips.
func someSlips(slips int, more ...string) []string {
	lines := append([]string{"clerk", "sign 15", "sign 0", "sign 1"}, times("slip 0 1 0 0 45 100 1 2", slips)...)
	return append(lines, more...)
}

func TestP12_1Slips(t *testing.T) {
	testLast(t, []last{
		is(api.OK, "late 1"),
		is(api.OK, "late 30"),
		is(api.OK, "late 30", "late 0"),
		is(api.ErrRange, "late 31"),
		is(api.OK, "sign 0"),
		is(api.OK, "sign 15"),
		is(api.ErrRange, "sign 16"),
		is(api.ErrRange, "sign 9999"),
		is(api.OK, append(times("sign 3", 5), "sign 3")...),
		is(api.ErrLimit, append(times("sign 3", 6), "sign 3")...),
		is(api.ErrRange, append(times("sign 3", 6), "sign 16")...),
		is(api.OK, someSlips(0, "slip 3 0 2 0 45 100 0 0")...),
		is(api.OK, someSlips(0, "slip 3 1 1 0 9999/9 0000 300 300")...),
		is(api.OK, someSlips(7, "slip 0 1 0 0 45 100 1 2")...),
		is(api.ErrLimit, someSlips(8, "slip 0 1 0 0 45 100 1 2")...),
		is(api.OK, someSlips(0, "clerk", "slip 0 1 0 1 45 100 1 2")...),
		is(api.ErrNone, someSlips(0, "slip 4 1 0 0 45 100 1 2")...),
		is(api.ErrNone, someSlips(0, "slip 0 1 3 0 45 100 1 2")...),
		is(api.ErrNone, someSlips(0, "slip 0 1 0 1 45 100 1 2")...),
		is(api.ErrNone, "sign 15", "slip 0 1 0 0 45 100 1 2"),
		is(api.ErrNone, "clerk", "slip 0 1 0 0 45 100 1 2"),
		is(api.ErrNone, someSlips(0, "slip 4 2 0 0 45 100 1 2")...),
		is(api.ErrNone, someSlips(0, "slip 0 2 3 0 45 100 2 1")...),
		is(api.ErrNone, someSlips(8, "slip 0 1 0 1 45 100 2 1")...),
		is(api.ErrRange, someSlips(0, "slip 0 2 0 0 45 100 1 2")...),
		is(api.ErrRange, someSlips(0, "slip 0 9999 0 0 45 100 1 2")...),
		is(api.ErrRange, someSlips(0, "slip 0 1 0 0 45 100 2 1")...),
		is(api.ErrRange, someSlips(0, "slip 0 1 0 0 45 100 300 301")...),
		is(api.ErrRange, someSlips(0, "slip 0 1 0 0 45 100 301 301")...),
		is(api.ErrRange, someSlips(8, "slip 0 2 0 0 45 100 1 2")...),
		is(api.ErrRange, someSlips(8, "slip 0 1 0 0 45 100 2 1")...),
		is(api.OK, someSlips(8, "void 7")...),
		is(api.ErrNone, someSlips(8, "void 8")...),
		is(api.ErrNone, someSlips(0, "void 0")...),
		is(api.ErrNone, "void 9999"),
		is(api.OK, someSlips(8, "void 7", "slip 0 1 0 0 45 100 1 2")...),
	})
}

// someEntries returns a session with so many sheets, and with so many entries that
// can happen one after the other.
func someEntries(sheets, entries int, more ...string) []string {
	lines := times("sheet 0", sheets)
	for k := range entries {
		lines = append(lines, fmt.Sprintf("pass 0 %d %d %d %d", k%4, (k+1)%4, k, k))
	}
	return append(lines, more...)
}

func TestP12_1Sheets(t *testing.T) {
	testLast(t, []last{
		is(api.OK, "sheet 0"),
		is(api.OK, "sheet 3"),
		is(api.ErrNone, "sheet 4"),
		is(api.OK, someEntries(3, 0, "sheet 1")...),
		is(api.ErrLimit, someEntries(4, 0, "sheet 1")...),
		is(api.ErrNone, someEntries(4, 0, "sheet 4")...),
		is(api.OK, someEntries(1, 6, "sheet 2")...),
		is(api.OK, someEntries(1, 0, "saw 0 0 0")...),
		is(api.OK, someEntries(4, 2, "saw 3 0 9")...),
		is(api.ErrNone, "saw 0 0 0"),
		is(api.ErrNone, someEntries(1, 0, "saw 1 0 0")...),
		is(api.ErrNone, someEntries(1, 0, "saw 0 4 0")...),
		is(api.ErrNone, someEntries(1, 0, "saw 0 4 10")...),
		is(api.ErrRange, someEntries(1, 0, "saw 0 0 10")...),
		is(api.ErrFail, someEntries(1, 0, "saw 0 1 9")...),
		is(api.OK, someEntries(1, 1, "saw 0 1 0")...),
		is(api.ErrFail, someEntries(1, 1, "saw 0 0 0")...),
		is(api.OK, someEntries(1, 0, "saw 0 0 1", "saw 0 0 1", "saw 0 0 1", "saw 0 0 1")...),
		is(api.ErrLimit, someEntries(1, 0, "saw 0 0 1", "saw 0 0 1", "saw 0 0 1", "saw 0 0 1", "saw 0 0 1")...),
		is(api.ErrLimit, someEntries(1, 0, "saw 0 0 1", "saw 0 0 1", "saw 0 0 1", "saw 0 0 1", "saw 0 1 1")...),
		is(api.ErrRange, someEntries(1, 0, "saw 0 0 1", "saw 0 0 1", "saw 0 0 1", "saw 0 0 1", "saw 0 0 10")...),
		is(api.OK, someEntries(1, 6, "drop 5")...),
		is(api.ErrNone, someEntries(1, 6, "drop 6")...),
		is(api.ErrFail, someEntries(1, 6, "drop 4")...),
		is(api.ErrFail, someEntries(1, 2, "drop 0")...),
		is(api.ErrFail, someEntries(1, 1, "saw 0 1 9", "drop 0")...),
		is(api.ErrNone, someEntries(1, 0, "drop 0")...),
		is(api.ErrNone, "drop 0"),
		is(api.OK, someEntries(1, 0, "saw 0 0 1", "forget 0")...),
		is(api.ErrNone, someEntries(1, 0, "saw 0 0 1", "forget 1")...),
		is(api.ErrNone, someEntries(1, 1, "forget 0")...),
		is(api.ErrNone, "forget 9999"),
	})
}

func TestP12_1Entries(t *testing.T) {
	for _, word := range []string{"pass", "loan", "return"} {
		// Each Return has a loan that is open.
		some := func(line string) []string {
			return []string{"sheet 0", "sheet 1", "loan 1 1 0 0 0", "loan 1 0 1 1 1", word + line}
		}
		full := func(line string) []string {
			return append(some(" 0 0 1 2 9"), "pass 0 1 2 9 9", "pass 0 2 3 9 9", "pass 0 3 0 9 9", word+line)
		}
		testLast(t, []last{
			is(api.OK, some(" 0 0 1 2 9")...),
			is(api.OK, some(" 0 0 1 2 2")...),
			is(api.OK, some(" 0 0 1 9 9")...),
			is(api.OK, some(" 1 1 0 2 9")...),
			is(api.ErrNone, word+" 0 0 1 2 9"),
			is(api.ErrNone, some(" 2 0 1 2 9")...),
			is(api.ErrNone, some(" 0 4 1 2 9")...),
			is(api.ErrNone, some(" 0 0 4 2 9")...),
			is(api.ErrNone, some(" 0 4 4 2 9")...),
			is(api.ErrNone, some(" 2 0 0 2 9")...),
			is(api.ErrNone, some(" 2 0 1 9 2")...),
			is(api.ErrRange, some(" 0 0 0 2 9")...),
			is(api.ErrRange, some(" 0 0 1 9 8")...),
			is(api.ErrRange, some(" 0 0 1 2 10")...),
			is(api.ErrRange, some(" 0 0 1 10 10")...),
			is(api.ErrFail, some(" 0 1 0 2 9")...),
			is(api.ErrFail, some(" 1 1 0 0 0")...),
			is(api.ErrLimit, full(" 0 0 1 9 9")...),
			is(api.ErrLimit, full(" 0 1 0 9 9")...),
			is(api.ErrRange, full(" 0 0 0 9 9")...),
			is(api.ErrRange, full(" 0 0 1 9 10")...),
			is(api.ErrNone, full(" 2 0 1 9 9")...),
			is(api.ErrNone, full(" 0 4 4 9 9")...),
		})
	}
	testLast(t, []last{
		is(api.ErrFail, "sheet 0", "return 0 0 1 0 9"),
		is(api.OK, "sheet 0", "pass 0 0 1 0 9"),
		is(api.OK, "sheet 0", "loan 0 0 1 0 9"),
		is(api.OK, "sheet 0", "loan 0 0 1 0 9", "return 0 1 0 0 9"),
		is(api.ErrFail, "sheet 0", "pass 0 0 1 0 9", "return 0 1 0 0 9"),
		is(api.ErrFail, "sheet 0", "saw 0 0 9", "pass 0 0 1 0 9"),
		is(api.ErrFail, "sheet 0", "loan 0 0 1 0 9", "return 0 1 0 0 9", "drop 0"),
	})
}

// someTrades returns a session with so many trades of a share, of which the house
// has the first three.
func someTrades(trades int, more ...string) []string {
	return append(append([]string{"held 0 4"}, times("trade 0 1 1 1 3 4 6", trades)...), more...)
}

func TestP12_1Trades(t *testing.T) {
	testLast(t, []last{
		is(api.OK, "held 0 1"),
		is(api.OK, "held 3 100"),
		is(api.OK, "held 3 100", "held 3 0"),
		is(api.ErrNone, "held 4 1"),
		is(api.ErrNone, "held 4 101"),
		is(api.ErrRange, "held 0 101"),
		is(api.ErrRange, someTrades(1, "held 0 9999")...),
		is(api.OK, someTrades(3, "held 0 3")...),
		is(api.ErrFail, someTrades(3, "held 0 2")...),
		is(api.OK, someTrades(0, "trade 0 1 4 0 2 0 2")...),
		is(api.OK, someTrades(0, "trade 0 3 4 9 11 9 11")...),
		is(api.ErrFail, someTrades(0, "trade 0 1 5 1 1 1 1")...),
		is(api.ErrFail, "trade 2 1 1 1 1 1 1"),
		is(api.ErrFail, someTrades(0, "trade 0 1 1 2 2 1 1")...),
		is(api.OK, someTrades(0, "trade 0 1 1 2 2 1 2")...),
		is(api.OK, someTrades(0, "closed 11 11", "trade 2 1 1 1 1 11 11")...),
		is(api.ErrNone, someTrades(0, "trade 4 1 1 1 1 1 1")...),
		is(api.ErrNone, someTrades(0, "trade 0 4 1 1 1 1 1")...),
		is(api.ErrNone, someTrades(0, "trade 4 4 1 1 1 1 1")...),
		is(api.ErrNone, someTrades(0, "trade 4 0 0 1 1 1 1")...),
		is(api.ErrRange, someTrades(0, "trade 0 0 1 1 1 1 1")...),
		is(api.ErrRange, someTrades(0, "trade 0 1 0 1 1 1 1")...),
		is(api.ErrRange, someTrades(0, "held 0 100", "trade 0 1 101 1 1 1 1")...),
		is(api.OK, someTrades(0, "held 0 100", "trade 0 1 100 1 1 1 1")...),
		is(api.ErrRange, someTrades(0, "trade 0 1 1 2 1 2 2")...),
		is(api.ErrRange, someTrades(0, "trade 0 1 1 1 4 4 4")...),
		is(api.ErrRange, someTrades(0, "trade 0 1 1 1 1 3 2")...),
		is(api.ErrRange, someTrades(0, "trade 0 1 1 1 1 1 4")...),
		is(api.ErrRange, someTrades(0, "trade 0 1 1 12 12 12 12")...),
		is(api.ErrRange, someTrades(0, "trade 0 1 1 10 10 10 12")...),
		is(api.OK, someTrades(3, "trade 0 1 1 1 3 4 6")...),
		is(api.ErrLimit, someTrades(4, "trade 0 1 1 1 3 4 6")...),
		is(api.ErrLimit, someTrades(4, "trade 0 1 9 1 3 4 6")...),
		is(api.ErrRange, someTrades(4, "trade 0 0 1 1 3 4 6")...),
		is(api.ErrNone, someTrades(4, "trade 0 4 1 1 3 4 6")...),
		is(api.OK, someTrades(4, "cancel 3")...),
		is(api.ErrNone, someTrades(4, "cancel 4")...),
		is(api.ErrNone, "cancel 0"),
		is(api.ErrFail, someTrades(1, "trade 1 2 1 5 5 7 8", "cancel 0")...),
		is(api.OK, someTrades(1, "trade 1 2 1 5 5 7 8", "cancel 1")...),
		is(api.ErrFail, someTrades(1, "trade 1 2 1 1 3 1 3")...),
		is(api.OK, someTrades(1, "trade 1 2 1 1 3 3 5")...),
	})
}

func TestP12_1Company(t *testing.T) {
	testLast(t, []last{
		is(api.OK, "dividend 0 0 0"),
		is(api.OK, "dividend 0 11 50"),
		is(api.OK, "dividend 11 11 1"),
		is(api.ErrRange, "dividend 2 1 1"),
		is(api.ErrRange, "dividend 1 12 1"),
		is(api.ErrRange, "dividend 12 12 1"),
		is(api.ErrRange, "dividend 1 1 51"),
		is(api.OK, append(times("dividend 1 1 1", 2), "dividend 1 1 1")...),
		is(api.ErrLimit, append(times("dividend 1 1 1", 3), "dividend 1 1 1")...),
		is(api.ErrRange, append(times("dividend 1 1 1", 3), "dividend 1 1 51")...),
		is(api.OK, "split 0 1 1"),
		is(api.OK, "split 11 6 4"),
		is(api.ErrRange, "split 12 1 1"),
		is(api.ErrRange, "split 1 0 1"),
		is(api.ErrRange, "split 1 7 1"),
		is(api.ErrRange, "split 1 1 0"),
		is(api.ErrRange, "split 1 1 5"),
		is(api.OK, "split 4 1 1", "split 5 1 1"),
		is(api.ErrState, "split 4 1 1", "split 4 1 1"),
		is(api.ErrState, "split 4 1 1", "split 0 1 1"),
		is(api.ErrRange, "split 4 1 1", "split 0 1 5"),
		is(api.ErrLimit, "split 4 1 1", "split 5 1 1", "split 6 1 1"),
		is(api.ErrState, "split 4 1 1", "split 5 1 1", "split 5 1 1"),
		is(api.ErrRange, "split 4 1 1", "split 5 1 1", "split 5 1 5"),
		// Of a share that is sold after the split there are too few.
		is(api.ErrFail, "held 0 4", "trade 0 1 3 5 5 5 5", "split 5 1 2"),
		is(api.OK, "held 0 4", "trade 0 1 2 5 5 5 5", "split 5 1 2"),
		is(api.OK, "held 0 4", "trade 0 1 3 4 4 5 5", "split 5 1 2"),
		is(api.ErrLimit, "held 0 4", "trade 0 1 3 7 7 7 7", "split 5 1 1", "split 6 1 1", "split 7 1 2"),
		is(api.ErrState, "held 0 4", "trade 0 1 3 7 7 7 7", "split 7 1 1", "split 6 1 2"),
		is(api.OK, "closed 0 0"),
		is(api.OK, "closed 0 11"),
		is(api.ErrRange, "closed 1 0"),
		is(api.ErrRange, "closed 0 12"),
		is(api.ErrRange, "closed 12 12"),
		is(api.OK, "closed 1 1", "closed 1 1"),
		is(api.ErrLimit, "closed 1 1", "closed 1 1", "closed 1 1"),
		is(api.ErrRange, "closed 1 1", "closed 1 1", "closed 1 0"),
	})
}

// TestP12_1Closed: whenever the books are closed, trades are registered in the
// order in which they were, so no house lacks what it has sold on.
func TestP12_1Closed(t *testing.T) {
	for first := range 12 {
		for end := first; end < 12; end++ {
			line := fmt.Sprintf("closed %d %d", first, end)
			testLast(t, []last{
				is(api.OK, "held 0 1", "trade 0 1 1 2 2 2 2", "trade 1 2 1 3 3 4 4", line),
				is(api.OK, "held 0 1", "split 4 2 1", "trade 0 1 1 3 3 3 3", "trade 1 2 2 4 4 4 4", line),
			})
		}
	}
}
