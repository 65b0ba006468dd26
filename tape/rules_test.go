package tape_test

import (
	"math/rand"
	"reflect"
	"slices"
	"strings"
	"testing"

	"contango/api"
	"contango/tape"
)

// result is what a call returned, and its error.
type result struct {
	call  string
	value any
	e     api.Errno
}

// callAll calls every function that has a tape and an error.
func callAll(b tape.Board, s string, sale int, high bool, sl tape.Slip) []result {
	prints, e1 := tape.Read(b, s)
	prices, e2 := tape.Prices(b, s)
	minutes, e3 := tape.Minutes(b, s)
	truth, e4 := tape.Show(b, s, sale, high)
	found, e5 := tape.Find(b, s, sl)
	misprints, e6 := tape.Misprints(b, s)
	return []result{{"Read", prints, e1}, {"Prices", prices, e2}, {"Minutes", minutes, e3}, {"Show", truth, e4}, {"Find", found, e5}, {"Misprints", misprints, e6}}
}

// isZero reports whether a result is the zero value of its type, or an empty list.
func isZero(x any) bool {
	v := reflect.ValueOf(x)
	return v.IsZero() || v.Kind() == reflect.Slice && v.Len() == 0
}

// wrongSlip has no element that is valid.
var wrongSlip = slip(-1, 0, 0, to(5, 4))

// TestR1Tapes: the errors of board and tape come before all others, in the
// order of the table, each input being wrong in much that follows, too.
func TestR1Tapes(t *testing.T) {
	valid := exampleBoard()
	eight := "AB" + strings.Repeat(" 8.2", 8)
	for _, x := range []struct {
		name string
		b    tape.Board
		tape string
		e    api.Errno
	}{
		{"too many stocks", tape.Board{Stocks: make([]tape.Stock, 5), Jump: -1}, strings.Repeat("x", 161), api.ErrLimit},
		{"the board is not valid", tape.Board{}, strings.Repeat("x", 161), api.ErrArg},
		{"too many bytes", valid, strings.Repeat("x", 161), api.ErrLimit},
		{"too many bytes of valid tokens", valid, "AB" + strings.Repeat(" C", 80), api.ErrLimit},
		{"as many bytes as there may be", valid, strings.Repeat("x", 160), api.ErrForm},
		{"a form in the first token", valid, "x ABC 8.2 ?", api.ErrForm},
		{"a name in the first token", valid, "ABC x 8.2 ?", api.ErrName},
		{"a state in the first token", valid, "8.2 x ABC ?", api.ErrState},
		{"a name after a number", valid, "AB 3s ABC", api.ErrName},
		{"a form after a number", valid, "AB 3s x", api.ErrForm},
		{"a form of one sale more", valid, eight + " 8.8", api.ErrForm},
		{"one sale more", valid, eight + " 8.2 x", api.ErrLimit},
		{"one sale more, with a number", valid, eight + " 3s 8.2 ?", api.ErrLimit},
		{"one sale more, with a full price", valid, eight + " $1.0 3s", api.ErrLimit},
		{"a number after eight sales", valid, eight + " 3s", api.ErrState},
		{"a number at the end", valid, "AB 8.2 3s", api.ErrState},
		{"a number alone", valid, "3s", api.ErrState},
	} {
		for _, r := range callAll(x.b, x.tape, -1, true, wrongSlip) {
			if r.e != x.e || !isZero(r.value) {
				t.Errorf("%s, %s: %v, %v; want %v", r.call, x.name, r.value, r.e, x.e)
			}
		}
		if tape.ProveTruth(x.b, x.tape, nil) {
			t.Errorf("ProveTruth, %s", x.name)
		}
	}
}

// TestP2_1Forms: what has no form of a token is refused, wherever it stands.
func TestP2_1Forms(t *testing.T) {
	for _, token := range []string{
		"", "ab", "Ab", "ABCD", "A1", "[", "`", "A_", "\u00c4", "\xff", "\x00", "AB\n", "\t",
		"8", "8.", ".2", ".", "8.8", "8.9", "8.-1", "10.0", "12.3", "99.7", "08.2", "8.02", "8.22", "8,2", "8.2.2", "8.2s", "-8.2", "+8.2", ":.2", "8.:", "/.2",
		"$", "$8", "$8.", "$.2", "$08.2", "$8.8", "$8.02", "$0.0", "$00.1", "$100.0", "$999.7", "$1000.0", "$-1.0", "$$8.2", "8.2$", "$ 8.2",
		"s", "0s", "00s", "03s", "100s", "999s", "1000s", "99999999999999999999s", "-3s", "+3s", "3S", "3ss", "s3", "3.s", "$3s",
		"@", "@-1", "@+1", "@01", "@00", "@601", "@999", "@1000", "@18446744073709551616", "@@1", "@/", "@:", "@-", "@1.0", "@1s", "1@", "@x",
		"L1", "L1-", "L-1", "L-", "L--", "L01-2", "L1-02", "L5-4", "L0-61", "L61-61", "L0-100", "L0-1000", "L1-2-3", "1-2", "0-0", "L1--2", "L-1-2", "L1_2", "LL1-2", "l1-2", "L1-2s",
		"!!", "??", "!?", "!1", "?s", "1!",
	} {
		for _, s := range []string{"AB 8.2 " + token, token + " AB 8.2", "3s " + token + " ?"} {
			if l, e := tape.Read(exampleBoard(), s); l != nil || e != api.ErrForm {
				t.Errorf("Read of %q: %v, %v", s, l, e)
			}
		}
	}
}

// TestP2_1States: what a token needs, and does not.
func TestP2_1States(t *testing.T) {
	for s, e := range map[string]api.Errno{
		"ABC": api.ErrName, "A": api.ErrName, "L": api.ErrName, "ABC AB": api.ErrName, "AB CA": api.ErrName,
		"8.2": api.ErrState, "$38.2": api.ErrState, "3s 8.2": api.ErrState, "! @1 L0-1 8.2": api.ErrState,
		"AB 3s C 8.2": api.ErrState, "AB 3s AB 8.2": api.ErrState, "AB 3s 3s 8.2": api.ErrState, "AB 3s @1 8.2": api.ErrState, "AB 3s @0 8.2": api.ErrState,
		"AB 3s L0-0 8.2": api.ErrState, "AB 3s ! 8.2": api.ErrState, "AB ! 3s ? 8.2": api.ErrState,
		"! !": api.ErrState, "?": api.ErrState, "! ? ?": api.ErrState, "! ? ! !": api.ErrState,
		"@7 @6": api.ErrState, "@600 @599": api.ErrState, "@1 AB 8.2 @0": api.ErrState,
		"! ? ! ?": api.OK, "@7 @7": api.OK, "@0": api.OK, "L0-0": api.OK, "L60-60": api.OK, "AB AB": api.OK, "AB 3s $38.2": api.OK,
		"@600 L0-60 ! AB 1s 0.0 99s $99.7 ?": api.OK,
	} {
		if _, got := tape.Read(exampleBoard(), s); got != e {
			t.Errorf("Read of %q: %v; want %v", s, got, e)
		}
	}
}

// TestR1Rows: the rows of a call come after those that begin with "all", and
// ErrRange before ErrFalse.
func TestR1Rows(t *testing.T) {
	b := exampleBoard()
	untrue := "L0-0 @9 AB 6.1 L5-5 C 0.0"
	for _, sale := range []int{-1, 2, 8, 1<<63 - 1, -1 << 63} {
		if l, e := tape.Show(b, untrue, sale, true); l != nil || e != api.ErrRange {
			t.Errorf("Show of the sale %d: %v, %v", sale, l, e)
		}
	}
	if l, e := tape.Show(b, "", 0, false); l != nil || e != api.ErrRange {
		t.Errorf("Show of no sales: %v, %v", l, e)
	}
	valid := slip(1, 80, 1, to(0, 600))
	for name, change := range map[string]func(s *tape.Slip){
		"a stock below 0":                 func(s *tape.Slip) { s.Stock = -1 },
		"no such stock":                   func(s *tape.Slip) { s.Stock = 2 },
		"no price":                        func(s *tape.Slip) { s.Price = 0 },
		"a price above the greatest one":  func(s *tape.Slip) { s.Price = 800 },
		"no number":                       func(s *tape.Slip) { s.Number = 0 },
		"a number above the greatest one": func(s *tape.Slip) { s.Number = 100 },
		"minutes below 0":                 func(s *tape.Slip) { s.Minutes.Lo = -1 },
		"minutes above the greatest one":  func(s *tape.Slip) { s.Minutes.Hi = 601 },
		"no minutes":                      func(s *tape.Slip) { s.Minutes = to(6, 5) },
	} {
		s := valid
		change(&s)
		for _, on := range []string{"", untrue} {
			if l, e := tape.Find(b, on, s); l != nil || e != api.ErrRange {
				t.Errorf("Find in %q, %s: %v, %v", on, name, l, e)
			}
		}
	}
	for _, on := range []string{untrue, "C 0.0 AB 6.1", "L0-0 @9 AB 8.2 L5-5 C 0.0"} {
		if l, e := tape.Find(b, on, valid); l != nil || e != api.ErrFalse {
			t.Errorf("Find in %q: %v, %v", on, l, e)
		}
	}
}

func TestR1Write(t *testing.T) {
	b := exampleBoard()
	wrong := sold(-1, 0, 0, -1)
	for _, x := range []struct {
		name string
		b    tape.Board
		l    []tape.Sale
		e    api.Errno
	}{
		{"too many stocks", tape.Board{Stocks: make([]tape.Stock, 5)}, slices.Repeat([]tape.Sale{wrong}, 9), api.ErrLimit},
		{"the board is not valid", tape.Board{}, slices.Repeat([]tape.Sale{wrong}, 9), api.ErrArg},
		{"the board is not valid, and nothing to be written", tape.Board{}, nil, api.ErrArg},
		{"nine sales", b, slices.Repeat([]tape.Sale{wrong}, 9), api.ErrLimit},
		{"nine valid sales", b, slices.Repeat([]tape.Sale{sold(0, 1, 1, 0)}, 9), api.ErrLimit},
		{"a stock below 0", b, []tape.Sale{sold(0, 1, 1, 0), sold(-1, 1, 1, 0)}, api.ErrRange},
		{"no such stock", b, []tape.Sale{sold(0, 1, 1, 0), sold(2, 1, 1, 0)}, api.ErrRange},
		{"no number", b, []tape.Sale{sold(0, 0, 1, 0)}, api.ErrRange},
		{"a number above the greatest one", b, []tape.Sale{sold(0, 100, 1, 0)}, api.ErrRange},
		{"no price", b, []tape.Sale{sold(0, 1, 0, 0)}, api.ErrRange},
		{"a price above the greatest one", b, []tape.Sale{sold(0, 1, 800, 0)}, api.ErrRange},
		{"a minute below 0", b, []tape.Sale{sold(0, 1, 1, -1)}, api.ErrRange},
		{"a minute above the greatest one", b, []tape.Sale{sold(0, 1, 1, 601)}, api.ErrRange},
		{"a minute less than before", b, []tape.Sale{sold(0, 1, 1, 5), sold(1, 1, 1, 4)}, api.ErrRange},
	} {
		if s, e := tape.Write(x.b, x.l); s != "" || e != x.e {
			t.Errorf("Write, %s: %q, %v; want %v", x.name, s, e, x.e)
		}
	}
}

// TestR3Empty: nil and a list without elements are the same.
func TestR3Empty(t *testing.T) {
	if e := tape.CheckBoard(tape.Board{Stocks: []tape.Stock{}, Small: 1}); e != api.ErrArg {
		t.Errorf("CheckBoard without stocks: %v", e)
	}
	if s, e := tape.Write(exampleBoard(), []tape.Sale{}); s != "" || e != api.OK {
		t.Errorf("Write of no sales: %q, %v", s, e)
	}
	if !tape.ProveTruth(exampleBoard(), "AB", []int{}) {
		t.Error("ProveTruth without prices")
	}
}

// TestR4Memory: arguments are not written to, results share no memory.
func TestR4Memory(t *testing.T) {
	for _, s := range samples(100, false) {
		b := tape.Board{Stocks: slices.Clone(s.b.Stocks), Jump: s.b.Jump, Small: s.b.Small}
		sl := slip(0, 80, 1, to(0, 600))
		kept := callAll(s.b, s.tape, 0, true, sl)
		for _, r := range callAll(s.b, s.tape, 0, true, sl) {
			switch l := r.value.(type) {
			case []tape.Print:
				clear(l)
			case []tape.Range:
				clear(l)
			case []int:
				clear(l)
			}
		}
		before := slices.Clone(s.prices)
		tape.ProveTruth(s.b, s.tape, s.prices)
		sales := s.sales()
		tape.Write(s.b, sales)
		if !reflect.DeepEqual(s.b, b) || !slices.Equal(s.prices, before) || !slices.Equal(sales, s.sales()) {
			t.Fatalf("arguments have changed: %v, %v, %v", s.b, s.prices, sales)
		}
		if again := callAll(s.b, s.tape, 0, true, sl); !reflect.DeepEqual(kept, again) {
			t.Fatalf("%v, %q: %v, and then %v", s.b, s.tape, kept, again)
		}
	}
}

// anyNumber returns numbers within limits, near them, and far away.
func anyNumber(r *rand.Rand) int {
	return pick(r, 0, 1, 1, 2, 4, 9, 10, 40, 41, 80, 99, 100, 600, 601, 799, 800, -1, 1<<63-1, -1<<63, r.Int(), -r.Int())
}

// anyRange returns any two numbers.
func anyRange(r *rand.Rand) tape.Range { return to(anyNumber(r), anyNumber(r)) }

// anyTape returns strings that are sometimes tapes.
func anyTape(r *rand.Rand) string {
	var list []string
	for range r.Intn(20) {
		list = append(list, pick(r, "AB", "AB", "C", "L", "!", "?", "3s", "@5", "@9", "L0-3", "L2-2", "8.2", "8.5", "0.1", "$38.2", "$10.0", "x", "", "9.9", "@601"))
	}
	return strings.Join(list, " ")
}

// anyBoard returns any board.
func anyBoard(r *rand.Rand) tape.Board {
	b := tape.Board{Jump: anyNumber(r), Small: anyNumber(r)}
	for range r.Intn(6) {
		b.Stocks = append(b.Stocks, tape.Stock{Name: pick(r, "AB", "C", "L", "", "x", "ABCD"), Start: anyRange(r)})
	}
	return b
}

// TestP1Returns: no call panics, and each has a zero value with its error,
// whatever its arguments are.
func TestP1Returns(t *testing.T) {
	r := rand.New(rand.NewSource(12))
	for range 20000 {
		b, s := anyBoard(r), anyTape(r)
		if r.Intn(3) > 0 {
			b = pick(r, exampleBoard(), wideBoard(), someBoard(r))
		}
		if r.Intn(8) == 0 {
			s = strings.Repeat(pick(r, s, " ", "AB "), r.Intn(100))
		}
		sl := slip(anyNumber(r), anyNumber(r), anyNumber(r), anyRange(r))
		for _, x := range callAll(b, s, anyNumber(r), r.Intn(2) == 0, sl) {
			if x.e != api.OK && !isZero(x.value) {
				t.Fatalf("%s of %v, %q: %v, %v", x.call, b, s, x.value, x.e)
			}
		}
		l := make([]tape.Sale, r.Intn(11))
		for i := range l {
			l[i] = sold(anyNumber(r), anyNumber(r), anyNumber(r), anyNumber(r))
		}
		if text, e := tape.Write(b, l); e != api.OK && text != "" {
			t.Fatalf("Write of %v, %v: %q, %v", b, l, text, e)
		}
		tape.ProveTruth(b, s, slices.Repeat([]int{anyNumber(r)}, r.Intn(10)))
		tape.CheckBoard(b)
	}
}
