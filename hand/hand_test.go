package hand_test

import (
	"slices"
	"testing"

	"contango/api"
	"contango/hand"
)

// exampleHand is the hand of the chapter's examples, with these Errors.
func exampleHand(errors int) hand.Hand {
	return hand.Hand{Clerks: [][]hand.Pair{{{Written: 1, Read: 7}, {Written: 3, Read: 8}}, {{Written: 7, Read: 1}}}, Errors: errors}
}

// note returns a note of these readings.
func note(check int, readings ...hand.Reading) hand.Note {
	return hand.Note{Readings: readings, Check: check}
}

// by returns a reading by the clerk.
func by(clerk int, text string) hand.Reading { return hand.Reading{Clerk: clerk, Text: text} }

func TestP1_1Value(t *testing.T) {
	for _, x := range []struct {
		text  string
		value int
		e     api.Errno
	}{
		{"45/3", 363, api.OK},
		{"0", 0, api.OK},
		{"0/1", 1, api.OK},
		{"0/7", 7, api.OK},
		{"7", 56, api.OK},
		{"10", 80, api.OK},
		{"1000", 8000, api.OK},
		{"9999/7", api.MaxHandValue, api.OK},
		{"05", 0, api.ErrForm},
		{"00", 0, api.ErrForm},
		{"00/1", 0, api.ErrForm},
		{"0123", 0, api.ErrForm},
		{"45/0", 0, api.ErrForm},
		{"45/8", 0, api.ErrForm},
		{"45/9", 0, api.ErrForm},
		{"", 0, api.ErrForm},
		{"/", 0, api.ErrForm},
		{"/3", 0, api.ErrForm},
		{"45/", 0, api.ErrForm},
		{"45/12", 0, api.ErrForm},
		{"4/5/", 0, api.ErrForm},
		{"4//5", 0, api.ErrForm},
		{"4/5/3", 0, api.ErrForm},
		{"45//", 0, api.ErrForm},
		{"10000", 0, api.ErrForm},
		{"12345/1", 0, api.ErrForm},
		{"-4", 0, api.ErrForm},
		{"+4", 0, api.ErrForm},
		{" 4", 0, api.ErrForm},
		{"4 ", 0, api.ErrForm},
		{"4:", 0, api.ErrForm},
		{"4/:", 0, api.ErrForm},
		{"4.1", 0, api.ErrForm},
		{"4\x00", 0, api.ErrForm},
		{"\xff", 0, api.ErrForm},
		{"\u0664", 0, api.ErrForm},
		{"4/\u0664", 0, api.ErrForm},
	} {
		if v, e := hand.Value(x.text); v != x.value || e != x.e {
			t.Errorf("Value(%q) = %d, %v; want %d, %v", x.text, v, e, x.value, x.e)
		}
	}
}

func TestP1_1Spell(t *testing.T) {
	for _, x := range []struct {
		value int
		text  string
		e     api.Errno
	}{
		{363, "45/3", api.OK},
		{360, "45", api.OK},
		{0, "0", api.OK},
		{5, "0/5", api.OK},
		{8, "1", api.OK},
		{801, "100/1", api.OK},
		{79992, "9999", api.OK},
		{api.MaxHandValue, "9999/7", api.OK},
		{api.MaxHandValue + 1, "", api.ErrRange},
		{-1, "", api.ErrRange},
		{1 << 62, "", api.ErrRange},
		{-1 << 63, "", api.ErrRange},
	} {
		if s, e := hand.Spell(x.value); s != x.text || e != x.e {
			t.Errorf("Spell(%d) = %q, %v; want %q, %v", x.value, s, e, x.text, x.e)
		}
	}
}

func TestP1_1CheckHand(t *testing.T) {
	eight := []hand.Pair{{0, 1}, {0, 2}, {0, 3}, {0, 4}, {9, 5}, {5, 9}, {1, 0}, {2, 0}}
	for _, x := range []struct {
		name string
		h    hand.Hand
		e    api.Errno
	}{
		{"the example", exampleHand(1), api.OK},
		{"a clerk without pairs", hand.Hand{Clerks: [][]hand.Pair{nil}}, api.OK},
		{"three clerks, most pairs, most errors", hand.Hand{Clerks: [][]hand.Pair{eight, eight, eight}, Errors: 3}, api.OK},
		{"a pair and its reverse", hand.Hand{Clerks: [][]hand.Pair{{{1, 7}, {7, 1}}}}, api.OK},
		{"the same pair of two clerks", hand.Hand{Clerks: [][]hand.Pair{{{1, 7}}, {{1, 7}}}}, api.OK},
		{"four clerks", hand.Hand{Clerks: make([][]hand.Pair, 4)}, api.ErrLimit},
		{"nine pairs of the last clerk", hand.Hand{Clerks: [][]hand.Pair{nil, slices.Concat(eight, []hand.Pair{{3, 4}})}}, api.ErrLimit},
		{"no clerk", hand.Hand{}, api.ErrArg},
		{"Errors below 0", exampleHand(-1), api.ErrArg},
		{"Errors above 3", exampleHand(4), api.ErrArg},
		{"the same figure twice", hand.Hand{Clerks: [][]hand.Pair{{{7, 7}}}}, api.ErrArg},
		{"the same pair twice", hand.Hand{Clerks: [][]hand.Pair{nil, {{1, 7}, {7, 1}, {1, 7}}}}, api.ErrArg},
		{"Written below 0", hand.Hand{Clerks: [][]hand.Pair{{{-1, 7}}}}, api.ErrArg},
		{"Written above 9", hand.Hand{Clerks: [][]hand.Pair{{{10, 7}}}}, api.ErrArg},
		{"Read below 0", hand.Hand{Clerks: [][]hand.Pair{{{7, -1}}}}, api.ErrArg},
		{"Read above 9", hand.Hand{Clerks: [][]hand.Pair{{{7, 10}}}}, api.ErrArg},
		{"ErrLimit before ErrArg", hand.Hand{Clerks: make([][]hand.Pair, 4), Errors: 9}, api.ErrLimit},
		{"ErrLimit of the last clerk before ErrArg of the first", hand.Hand{Clerks: [][]hand.Pair{{{7, 7}}, make([]hand.Pair, 9)}}, api.ErrLimit},
	} {
		if e := hand.CheckHand(x.h); e != x.e {
			t.Errorf("CheckHand of %s: %v; want %v", x.name, e, x.e)
		}
	}
}

func TestP1_2Misread(t *testing.T) {
	for _, x := range []struct {
		errors, clerk int
		text, read    string
		many          int
		e             api.Errno
	}{
		{1, 0, "13", "73", 1, api.OK},
		{1, 0, "13", "18", 1, api.OK},
		{1, 0, "13", "13", 0, api.OK},
		{2, 0, "13", "78", 2, api.OK},
		{3, 0, "1131", "7187", 3, api.OK},
		{1, 0, "45/3", "45/8", 1, api.OK},
		{3, 1, "7/7", "1/1", 2, api.OK},
		{0, 0, "13", "13", 0, api.OK},
		{1, 0, "13", "78", 0, api.ErrFalse},
		{2, 0, "1131", "7187", 0, api.ErrFalse},
		{0, 0, "13", "73", 0, api.ErrFalse},
		{3, 0, "73", "13", 0, api.ErrFalse},
		{3, 1, "13", "73", 0, api.ErrFalse},
		{3, 0, "13", "12", 0, api.ErrFalse},
		{3, 0, "13", "130", 0, api.ErrFalse},
		{3, 0, "130", "13", 0, api.ErrFalse},
		{3, 0, "13/3", "13", 0, api.ErrFalse},
		{3, 0, "13", "13/3", 0, api.ErrFalse},
		{3, 0, "1/3", "133", 0, api.ErrFalse},
	} {
		if many, e := hand.Misread(exampleHand(x.errors), x.clerk, x.text, x.read); many != x.many || e != x.e {
			t.Errorf("Misread, Errors %d, clerk %d, %q as %q: %d, %v; want %d, %v", x.errors, x.clerk, x.text, x.read, many, e, x.many, x.e)
		}
	}
}

// TestP1_2Unwritten: a clerk may read a text as a string that is none.
func TestP1_2Unwritten(t *testing.T) {
	h := hand.Hand{Clerks: [][]hand.Pair{{{6, 0}, {5, 8}}}, Errors: 2}
	if many, e := hand.Misread(h, 0, "61/5", "01/8"); many != 2 || e != api.OK {
		t.Errorf("Misread of 61/5 as 01/8: %d, %v", many, e)
	}
	if many, e := hand.Misread(h, 0, "01", "01"); many != 0 || e != api.ErrForm {
		t.Errorf("Misread of 01, which is no text: %d, %v", many, e)
	}
}

func TestP1_2ProveWritten(t *testing.T) {
	h := exampleHand(1)
	for _, x := range []struct {
		name string
		h    hand.Hand
		n    hand.Note
		text string
		want bool
	}{
		{"misread", h, note(hand.None, by(0, "78")), "18", true},
		{"read right", h, note(hand.None, by(0, "78")), "78", true},
		{"two figures", h, note(hand.None, by(0, "78")), "13", false},
		{"two figures of two errors", exampleHand(2), note(hand.None, by(0, "78")), "13", true},
		{"both readings", h, note(hand.None, by(0, "78"), by(1, "18")), "78", true},
		{"one of two readings", h, note(hand.None, by(0, "78"), by(1, "18")), "73", false},
		{"the right check figure", h, note(0, by(0, "78")), "18", true},
		{"another check figure", h, note(0, by(0, "78")), "78", false},
		{"another shape", h, note(hand.None, by(0, "78")), "78/1", false},
		{"no text", h, note(hand.None, by(0, "08")), "08", false},
		{"no eighth", h, note(hand.None, by(0, "1/8")), "1/8", false},
		{"no shape", h, note(hand.None, by(0, "78")), "x", false},
		{"nothing", h, note(hand.None, by(0, "78")), "", false},
		{"the hand is not valid", exampleHand(4), note(hand.None, by(0, "78")), "78", false},
		{"no reading", h, note(hand.None), "78", false},
		{"no such clerk", h, note(hand.None, by(2, "78")), "78", false},
		{"no such check figure", h, note(9, by(0, "78")), "78", false},
		{"a reading without a shape", h, note(hand.None, by(0, "78"), by(0, "")), "78", false},
		{"five readings", h, note(hand.None, by(0, "1"), by(0, "1"), by(0, "1"), by(0, "1"), by(0, "1")), "1", false},
	} {
		if got := hand.ProveWritten(x.h, x.n, x.text); got != x.want {
			t.Errorf("ProveWritten, %s: %v", x.name, got)
		}
	}
}

func TestP1_3Written(t *testing.T) {
	h := exampleHand(1)
	zeros := hand.Hand{Clerks: [][]hand.Pair{{{0, 6}, {1, 0}, {5, 8}, {0, 8}, {9, 8}}}, Errors: 1}
	for _, x := range []struct {
		name   string
		h      hand.Hand
		n      hand.Note
		texts  []string
		values []int
	}{
		{"one reading", h, note(hand.None, by(0, "78")), []string{"18", "73", "78"}, []int{144, 584, 624}},
		{"two readings", h, note(hand.None, by(0, "78"), by(1, "18")), []string{"18", "78"}, []int{144, 624}},
		{"and a check figure", h, note(0, by(0, "78"), by(1, "18")), []string{"18"}, []int{144}},
		{"the greatest check figure", h, note(8, by(0, "8")), []string{"8"}, []int{64}},
		{"two errors", exampleHand(2), note(hand.None, by(0, "78")), []string{"13", "18", "73", "78"}, []int{104, 144, 584, 624}},
		{"no errors", exampleHand(0), note(hand.None, by(0, "78")), []string{"78"}, []int{624}},
		{"the eighth is misread", h, note(hand.None, by(0, "45/8")), []string{"45/3"}, []int{363}},
		{"no first 0", zeros, note(hand.None, by(0, "66")), []string{"60", "66"}, []int{480, 528}},
		{"0 alone", zeros, note(hand.None, by(0, "6")), []string{"0", "6"}, []int{0, 48}},
		{"0 before the slash", zeros, note(hand.None, by(0, "6/1")), []string{"0/1", "6/1"}, []int{1, 49}},
		{"what was read is no text", zeros, note(hand.None, by(0, "02")), []string{"12"}, []int{96}},
		{"eighths from 1 to 7", zeros, note(hand.None, by(0, "2/8")), []string{"2/5"}, []int{21}},
	} {
		texts, e := hand.Written(x.h, x.n)
		if !slices.Equal(texts, x.texts) || e != api.OK {
			t.Errorf("Written, %s: %q, %v; want %q", x.name, texts, e, x.texts)
		}
		values, e := hand.Values(x.h, x.n)
		if !slices.Equal(values, x.values) || e != api.OK {
			t.Errorf("Values, %s: %v, %v; want %v", x.name, values, e, x.values)
		}
		due := hand.Range{Lo: slices.Min(x.values), Hi: slices.Max(x.values)}
		if b, e := hand.Bounds(x.h, x.n); b != due || e != api.OK {
			t.Errorf("Bounds, %s: %v, %v; want %v", x.name, b, e, due)
		}
	}
}

// TestP1_3Order: the order of texts is that of their bytes, that of values another one.
func TestP1_3Order(t *testing.T) {
	h := hand.Hand{Clerks: [][]hand.Pair{{{1, 7}, {2, 7}, {3, 7}, {6, 7}, {9, 7}, {8, 7}, {0, 7}}}, Errors: 3}
	for _, read := range []string{"7", "7/7", "777", "77/7", "7777/7"} {
		n := note(hand.None, by(0, read))
		due := canBeWritten(allTexts(), h, n)
		texts, e := hand.Written(h, n)
		if !slices.Equal(texts, due) || e != api.OK {
			t.Errorf("Written of %q: %d texts, %v; want %d", read, len(texts), e, len(due))
		}
		values, _ := hand.Values(h, n)
		if !slices.IsSorted(values) || len(values) != len(due) {
			t.Errorf("Values of %q: %d; want %d, in increasing order", read, len(values), len(due))
		}
	}
}

func TestP1_3Fail(t *testing.T) {
	h := exampleHand(1)
	for name, n := range map[string]hand.Note{
		"readings that contradict each other": note(hand.None, by(0, "1"), by(1, "7")),
		"another length":                      note(hand.None, by(0, "78"), by(1, "7")),
		"a slash in one of them":              note(hand.None, by(0, "78"), by(1, "7/1")),
		"the check figure":                    note(2, by(0, "78")),
		"a string that no text is read as":    note(hand.None, by(1, "09")),
	} {
		if l, e := hand.Written(h, n); l != nil || e != api.ErrFail {
			t.Errorf("Written, %s: %q, %v", name, l, e)
		}
		if l, e := hand.Values(h, n); l != nil || e != api.ErrFail {
			t.Errorf("Values, %s: %v, %v", name, l, e)
		}
		if b, e := hand.Bounds(h, n); b != (hand.Range{}) || e != api.ErrFail {
			t.Errorf("Bounds, %s: %v, %v", name, b, e)
		}
		if m, e := hand.Further(h, n, 0); m != 0 || e != api.ErrFail {
			t.Errorf("Further, %s: %d, %v", name, m, e)
		}
	}
}

func TestP1_4Further(t *testing.T) {
	h := exampleHand(1)
	zeros := hand.Hand{Clerks: [][]hand.Pair{{{1, 7}, {2, 7}, {3, 7}}, {{1, 0}, {2, 0}, {3, 0}, {7, 0}}, nil}, Errors: 1}
	for _, x := range []struct {
		name  string
		h     hand.Hand
		n     hand.Note
		clerk int
		most  int
	}{
		{"the example", h, note(hand.None, by(0, "78")), 1, 2},
		{"the same clerk again", h, note(hand.None, by(0, "78")), 0, 3},
		{"no errors", exampleHand(0), note(hand.None, by(0, "78")), 0, 1},
		{"one text", h, note(0, by(0, "78")), 1, 1},
		{"a further reading that is no text", zeros, note(hand.None, by(0, "75")), 1, 4},
		{"a clerk who reads right", zeros, note(hand.None, by(0, "75")), 2, 1},
	} {
		if most, e := hand.Further(x.h, x.n, x.clerk); most != x.most || e != api.OK {
			t.Errorf("Further, %s: %d, %v; want %d", x.name, most, e, x.most)
		}
	}
}

func TestP1_5Leave(t *testing.T) {
	h := exampleHand(1)
	for _, x := range []struct {
		name string
		n    hand.Note
		left []int
		e    api.Errno
	}{
		{"the example", note(hand.None, by(0, "7"), by(0, "1"), by(1, "7")), []int{1}, api.OK},
		{"no contradiction", note(hand.None, by(0, "78"), by(1, "18")), nil, api.OK},
		{"the first one of two sets", note(hand.None, by(0, "1"), by(1, "7")), []int{0}, api.OK},
		{"the first set is lexicographically first", note(hand.None, by(0, "5"), by(0, "4"), by(0, "5"), by(0, "4")), []int{0, 2}, api.OK},
		{"not the first indexes", note(hand.None, by(0, "5"), by(0, "4"), by(0, "5"), by(0, "6")), []int{1, 3}, api.OK},
		{"all but the last one", note(hand.None, by(0, "05"), by(0, "06"), by(0, "04"), by(0, "4")), []int{0, 1, 2}, api.OK},
		{"the check figure decides", note(5, by(0, "4"), by(0, "4"), by(0, "5")), []int{0, 1}, api.OK},
		{"readings that no text has", note(hand.None, by(1, "09"), by(1, "08")), nil, api.ErrFail},
		{"a check figure that no text has", note(2, by(0, "78"), by(0, "78")), nil, api.ErrFail},
		{"one reading that no text has", note(hand.None, by(1, "1/9")), nil, api.ErrFail},
	} {
		left, e := hand.Leave(h, x.n)
		if !slices.Equal(left, x.left) || e != x.e {
			t.Errorf("Leave, %s: %v, %v; want %v, %v", x.name, left, e, x.left, x.e)
		}
	}
}
