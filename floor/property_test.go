package floor_test

import (
	"bytes"
	"fmt"
	"math/rand"
	"slices"
	"strings"
	"testing"

	"contango/api"
	"contango/coupon"
	"contango/floor"
	"contango/sheet"
	"contango/slip"
)

// TestP12_1Oracle: the states and errors of any sessions.
func TestP12_1Oracle(t *testing.T) {
	given := map[string]int{}
	for _, lines := range sessions(1, 5000) {
		got, errors, e := floor.Play(lines)
		want, answers := after(lines)
		if e != api.OK || !slices.Equal(errors, answers) || !same(got, want) {
			t.Fatalf("Play of %q: %+v, %v, %v; want %+v, %v", lines, got, errors, e, want, answers)
		}
		for i, line := range lines {
			word, _, _ := strings.Cut(line, " ")
			given[fmt.Sprint(word, " ", int(errors[i]))]++
		}
	}
	testGiven(t, given)
}

// testGiven tests that each word was accepted, and refused for each of its reasons.
func testGiven(t *testing.T, given map[string]int) {
	t.Helper()
	for word, errors := range map[string][]api.Errno{
		"clerk":    {api.ErrLimit},
		"pair":     {api.ErrNone, api.ErrRange, api.ErrTwice, api.ErrLimit},
		"errors":   {api.ErrRange},
		"late":     {api.ErrRange},
		"sign":     {api.ErrRange, api.ErrLimit},
		"slip":     {api.ErrNone, api.ErrRange, api.ErrLimit},
		"void":     {api.ErrNone},
		"sheet":    {api.ErrNone, api.ErrLimit},
		"pass":     {api.ErrNone, api.ErrRange, api.ErrLimit, api.ErrFail},
		"loan":     {api.ErrNone, api.ErrRange, api.ErrLimit, api.ErrFail},
		"return":   {api.ErrNone, api.ErrRange, api.ErrLimit, api.ErrFail},
		"saw":      {api.ErrNone, api.ErrRange, api.ErrLimit, api.ErrFail},
		"drop":     {api.ErrNone, api.ErrFail},
		"forget":   {api.ErrNone},
		"held":     {api.ErrNone, api.ErrRange, api.ErrFail},
		"trade":    {api.ErrNone, api.ErrRange, api.ErrLimit, api.ErrFail},
		"cancel":   {api.ErrNone, api.ErrFail},
		"dividend": {api.ErrRange, api.ErrLimit},
		"split":    {api.ErrRange, api.ErrState, api.ErrLimit, api.ErrFail},
		"closed":   {api.ErrRange, api.ErrLimit},
	} {
		for _, e := range append(errors, api.OK, api.ErrForm) {
			if key := fmt.Sprint(word, " ", int(e)); given[key] < 4 && key != "clerk 4" {
				t.Errorf("%s: only %d times", key, given[key])
			}
		}
	}
}

// TestP12_2Oracle: the pairs of any sessions, Where, Rights and Report.
func TestP12_2Oracle(t *testing.T) {
	is := map[string]int{}
	for _, lines := range slices.Concat(sessions(2, 200), sessions(2, 800, "slip", "slip", "slip", "late", "errors")) {
		s, _ := after(lines)
		pairs, sure, e := floor.Matched(lines)
		want, _ := slip.Sure(s.Day)
		if len(s.Day.Slips) == 0 {
			want = nil
			is["no slip"]++
		}
		isNone := len(s.Day.Slips) == 0
		if pairs != manyPairs(s.Day) || !sameLists(sure, want) || (e == api.ErrNone) != isNone || (e == api.OK) == isNone {
			t.Fatalf("Matched of %q: %d, %v, %v", lines, pairs, sure, e)
		}
		is[fmt.Sprint("pairs ", pairs)]++
		is[fmt.Sprint("sure ", len(sure))]++
		if got, e := floor.Report(lines); got != reportOf(s) || e != api.OK {
			t.Fatalf("Report of %q: %q, %v; want %q", lines, got, e, reportOf(s))
		}
	}
	for _, x := range []string{"no slip", "pairs 1", "pairs 2", "sure 0", "sure 1", "sure 2"} {
		if is[x] < 10 {
			t.Errorf("%s: only %d times", x, is[x])
		}
	}
}

func TestP12_3Oracle(t *testing.T) {
	is := map[int]int{}
	for _, lines := range sessions(3, 300) {
		s, _ := after(lines)
		for day := range 10 {
			got, e := floor.Where(lines, day)
			if len(s.Register.Start) == 0 {
				if got != nil || e != api.ErrNone {
					t.Fatalf("Where of %q: %v, %v", lines, got, e)
				}
				continue
			}
			if e != api.OK || len(got) != len(s.Register.Start) {
				t.Fatalf("Where of %q: %v, %v", lines, got, e)
			}
			for k, houses := range got {
				is[len(houses)]++
				if !slices.Equal(houses, holders(s.Register, k, day)) {
					t.Fatalf("Where of %q, %d: %v", lines, day, got)
				}
			}
		}
	}
	if is[1] < 500 || is[2] < 200 || is[3] < 20 {
		t.Errorf("houses: %v", is)
	}
}

func TestP12_4Oracle(t *testing.T) {
	wide := 0
	for _, lines := range slices.Concat(sessions(4, 200), sessions(4, 200, "trade", "dividend", "held", "split")) {
		s, _ := after(lines)
		for k := range 4 {
			got, e := floor.Rights(lines, k)
			if k >= len(s.Company.Dividends) {
				if got != nil || e != api.ErrNone {
					t.Fatalf("Rights of %q, %d: %v, %v", lines, k, got, e)
				}
				continue
			}
			_, _, want, _ := coupon.Bounds(s.Company, k)
			if e != api.OK || !slices.Equal(got, want) {
				t.Fatalf("Rights of %q, %d: %v, %v; want %v", lines, k, got, e, want)
			}
			if slices.ContainsFunc(got, func(x coupon.Range) bool { return x.Lo < x.Hi }) {
				wide++
			}
		}
	}
	if wide < 30 {
		t.Errorf("only %d wide rights", wide)
	}
}

func TestP12_6Oracle(t *testing.T) {
	r := rand.New(rand.NewSource(6))
	for range 1500 {
		lines := anyLines(r)
		b, e := floor.Write(lines)
		if e != api.OK || string(b) != fileOf(lines) {
			t.Fatalf("Write of %q: %q, %v", lines, b, e)
		}
		// What is changed in it, or comes after it, is read as far as it is whole.
		if len(b) > 0 {
			for range r.Intn(3) {
				b[r.Intn(len(b))] = pick(r, '/', '0', '1', '9', '\n', byte(r.Intn(256)))
			}
		}
		b = append(b, pick(r, "", anyLine(r, 30), recordOf(len(lines), anyLine(r, 60)), recordOf(r.Intn(40), ""))...)
		want, many := readable(string(b))
		if got, n := floor.Recover(b); !slices.Equal(got, want) || n != many {
			t.Fatalf("Recover of %q: %q, %d; want %q, %d", b, got, n, want, many)
		}
	}
}

func TestP12_7Oracle(t *testing.T) {
	r := rand.New(rand.NewSource(7))
	is := map[api.Errno]int{}
	for _, lines := range sessions(7, 500) {
		at := r.Intn(len(lines) + 1)
		b := []byte(fileOf(lines[:at]))
		b = append(b[:len(b)-r.Intn(min(len(b), 15)+1)], pick(r, "", "01/", "x")...)
		more := pick(r, lines[at:], someSession(r))
		want, isShort := resumed(b, more)
		got, e := floor.Resume(b, more)
		is[e]++
		if isShort != (e == api.OK) || !isShort && (got != nil || e != api.ErrLimit) || isShort && string(got) != want {
			t.Fatalf("Resume of %q, %q: %q, %v; want %q", b, more, got, e, want)
		}
	}
	if is[api.OK] < 200 || is[api.ErrLimit] < 20 {
		t.Errorf("errors: %v", is)
	}
}

// onlyAccepted returns the lines that are accepted.
func onlyAccepted(lines []string) []string {
	_, errors, _ := floor.Play(lines)
	var list []string
	for i, line := range lines {
		if errors[i] == api.OK {
			list = append(list, line)
		}
	}
	return list
}

func TestP12_8Again(t *testing.T) {
	for _, lines := range sessions(8, 300) {
		s, errors, _ := floor.Play(lines)
		kept := onlyAccepted(lines)
		again, answers, e := floor.Play(kept)
		if e != api.OK || !slices.Equal(answers, make([]api.Errno, len(kept))) || !same(s, again) {
			t.Fatalf("Play of %q, of those of %q that were accepted: %+v, %v", kept, lines, again, answers)
		}
		before, _, _ := floor.Play(nil)
		for i := range lines {
			then, _, _ := floor.Play(lines[:i+1])
			if errors[i] != api.OK && !same(then, before) {
				t.Fatalf("Play of %q: %+v has become %+v", lines[:i+1], before, then)
			}
			before = then
		}
	}
}

func TestP12_9Truth(t *testing.T) {
	for _, lines := range sessions(9, 300) {
		for i := range len(lines) + 1 {
			s, _, _ := floor.Play(lines[:i])
			if left, e := coupon.Leave(s.Company); len(left) > 0 || e != api.OK {
				t.Fatalf("Play of %q: the company %+v has no truth: %v", lines[:i], s.Company, e)
			}
			if len(s.Register.Start) == 0 {
				continue
			}
			if truth, e := sheet.Explain(s.Register); e != api.OK || !sheet.ProveTruth(s.Register, truth) {
				t.Fatalf("Play of %q: the register %+v has no truth: %v", lines[:i], s.Register, e)
			}
			if e := slip.CheckDay(s.Day); e != api.OK && len(s.Day.Hand.Clerks) > 0 {
				t.Fatalf("Play of %q: the day %+v is not valid: %v", lines[:i], s.Day, e)
			}
		}
	}
}

// told is what a session tells of each part of the state.
type told struct{ matched, where, rights string }

// tell returns what the session tells.
func tell(lines []string) told {
	pairs, sure, e := floor.Matched(lines)
	x := told{matched: fmt.Sprint(pairs, sure, e)}
	for _, day := range list(-1, 0, 4, 9) {
		houses, e := floor.Where(lines, day)
		x.where += fmt.Sprint(houses, e)
	}
	for k := range 3 {
		rights, e := floor.Rights(lines, k)
		x.rights += fmt.Sprint(rights, e)
	}
	return x
}

// without returns the lines that begin with none of the words.
func without(lines []string, words []string) []string {
	return slices.DeleteFunc(slices.Clone(lines), func(line string) bool { return isOf(line, words) })
}

// TestP12_10Depends: without all lines of one part of the state, or with one more,
// the same is told of the others.
func TestP12_10Depends(t *testing.T) {
	r := rand.New(rand.NewSource(10))
	for _, lines := range sessions(10, 100) {
		if len(lines) == api.MaxFloorSession {
			lines = lines[1:]
		}
		x := tell(lines)
		day := []string{dayLine(r, pick(r, dayWords()...))}
		register := []string{registerLine(r, pick(r, registerWords()...))}
		company := []string{companyLine(r, pick(r, companyWords()...))}
		for _, all := range [][]string{without(lines, dayWords()), slices.Concat(lines, day), slices.Concat(day, lines)} {
			if y := tell(all); y.where != x.where || y.rights != x.rights {
				t.Fatalf("%q and %q: %v and %v", lines, all, x, y)
			}
		}
		for _, all := range [][]string{without(lines, registerWords()), slices.Concat(lines, register), slices.Concat(register, lines)} {
			if y := tell(all); y.matched != x.matched || y.rights != x.rights {
				t.Fatalf("%q and %q: %v and %v", lines, all, x, y)
			}
		}
		for _, all := range [][]string{without(lines, companyWords()), slices.Concat(lines, company), slices.Concat(company, lines)} {
			if y := tell(all); y.matched != x.matched || y.where != x.where {
				t.Fatalf("%q and %q: %v and %v", lines, all, x, y)
			}
		}
	}
}

// TestP12_11Undone: what is recorded by one line is undone by the next one.
func TestP12_11Undone(t *testing.T) {
	r := rand.New(rand.NewSource(11))
	done := map[string]int{}
	for _, lines := range sessions(11, 400, "slip", "saw", "loan", "return", "trade") {
		lines = lines[:min(len(lines), 38)]
		before, _, _ := floor.Play(lines)
		for _, x := range []struct {
			line, undo string
			many       int
		}{
			{dayLine(r, "slip"), "void", len(before.Day.Slips)},
			{registerLine(r, "saw"), "forget", len(before.Register.Sights)},
			{registerLine(r, "pass"), "drop", len(before.Register.Entries)},
			{registerLine(r, "loan"), "drop", len(before.Register.Entries)},
			{registerLine(r, "return"), "drop", len(before.Register.Entries)},
			{companyLine(r, "trade"), "cancel", len(before.Company.Trades)},
		} {
			undo := fmt.Sprint(x.undo, " ", x.many)
			s, errors, e := floor.Play(slices.Concat(lines, []string{x.line, undo}))
			if e != api.OK || !same(s, before) {
				t.Fatalf("Play of %q, %q, %q: %+v has become %+v", lines, x.line, undo, before, s)
			}
			if answers := errors[len(lines):]; answers[0] == api.OK {
				done[strings.Split(x.line, " ")[0]]++
				if answers[1] != api.OK {
					t.Fatalf("Play of %q, %q, %q: %v", lines, x.line, undo, answers)
				}
			}
		}
	}
	for _, word := range []string{"slip", "saw", "pass", "loan", "return", "trade"} {
		if done[word] < 10 {
			t.Errorf("%s was accepted only %d times", word, done[word])
		}
	}
}

// isPartOf reports whether all numbers of the list are in the other one.
func isPartOf(l, all []int) bool {
	return !slices.ContainsFunc(l, func(n int) bool { return !slices.Contains(all, n) })
}

func TestP12_12Sight(t *testing.T) {
	r := rand.New(rand.NewSource(12))
	fewer := 0
	for _, lines := range sessions(12, 300, "pass", "pass", "loan", "sheet") {
		lines = lines[:min(len(lines), 39)]
		for range 3 {
			with := slices.Concat(lines, []string{registerLine(r, "saw")})
			if answerTo(t, with) != api.OK {
				continue
			}
			for day := range 10 {
				before, _ := floor.Where(lines, day)
				then, e := floor.Where(with, day)
				if e != api.OK || !slices.EqualFunc(then, before, isPartOf) {
					t.Fatalf("Where of %q, %d: %v, after %v: %v", with, day, then, before, e)
				}
				if !sameLists(then, before) {
					fewer++
				}
			}
		}
	}
	if fewer < 20 {
		t.Errorf("only %d times with fewer houses", fewer)
	}
}

func TestP12_13Slip(t *testing.T) {
	r := rand.New(rand.NewSource(13))
	added := map[int]int{}
	for _, lines := range sessions(13, 600, "slip", "slip", "late") {
		lines = lines[:min(r.Intn(len(lines)+1), 39)]
		for range 4 {
			with := slices.Concat(lines, []string{dayLine(r, "slip")})
			if answerTo(t, with) != api.OK {
				continue
			}
			before, _, _ := floor.Matched(lines)
			then, _, e := floor.Matched(with)
			if e != api.OK || then < before || then > before+1 {
				t.Fatalf("Matched of %q: %d, after %d: %v", with, then, before, e)
			}
			added[then-before]++
		}
	}
	if added[0] < 50 || added[1] < 50 {
		t.Errorf("pairs: %v", added)
	}
}

func TestP12_14File(t *testing.T) {
	r := rand.New(rand.NewSource(14))
	for range 200 {
		lines := anyLines(r)
		b, e := floor.Write(lines)
		if e != api.OK {
			t.Fatalf("Write of %q: %v", lines, e)
		}
		got, n := floor.Recover(b)
		if !slices.Equal(got, lines) || n != len(b) {
			t.Fatalf("Recover of %q: %q, %d", b, got, n)
		}
		whole, end := 0, 0
		for i := range len(b) + 1 {
			if whole < len(lines) && i == end+len(recordOf(whole, lines[whole])) {
				whole, end = whole+1, i
			}
			if got, n := floor.Recover(b[:i]); !slices.Equal(got, lines[:whole]) || n != end {
				t.Fatalf("Recover of %q: %q, %d; want %d lines", b[:i], got, n, whole)
			}
		}
	}
}

// TestP12_14Place: a record is read at no other place than its own.
func TestP12_14Place(t *testing.T) {
	for _, line := range []string{"", "a", "clerk", "trade 0 1 4 2 3 4 5", strings.Repeat("\xff", 60)} {
		for own := range 40 {
			record := fileOf(times(line, own+1))[own*(len(line)+9):]
			for place := range 40 {
				b := []byte(fileOf(times(line, place)) + record)
				want := place
				if own == place {
					want = place + 1
				}
				if got, n := floor.Recover(b); !slices.Equal(got, times(line, want)) || n != want*(len(line)+9) {
					t.Fatalf("Recover of the record %d at the place %d: %d, %d", own, place, len(got), n)
				}
			}
		}
	}
}

func TestP12_15Nothing(t *testing.T) {
	r := rand.New(rand.NewSource(15))
	for _, lines := range sessions(15, 300) {
		kept := onlyAccepted(lines)
		want, _ := floor.Write(kept)
		if b, e := floor.Resume(nil, lines); e != api.OK || !bytes.Equal(b, want) {
			t.Fatalf("Resume of no bytes, %q: %q, %v; want %q", lines, b, e, want)
		}
		// Wherever the file is cut off, the lines that are not whole make it again.
		for range 10 {
			left := want[:r.Intn(len(want)+1)]
			whole, _ := floor.Recover(left)
			if b, e := floor.Resume(left, kept[len(whole):]); e != api.OK || !bytes.Equal(b, want) {
				t.Fatalf("Resume of %q, %q: %q, %v; want %q", left, kept[len(whole):], b, e, want)
			}
		}
	}
}
