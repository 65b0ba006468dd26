package hand_test

import (
	"math/rand"
	"slices"
	"testing"

	"contango/api"
	"contango/hand"
)

// TestP1_3Oracle compares Written, Values, Bounds and ProveWritten with what
// the definitions say of all texts.
func TestP1_3Oracle(t *testing.T) {
	texts := allTexts()
	for _, s := range samples(300, false) {
		due := canBeWritten(texts, s.h, s.n)
		want := api.OK
		if len(due) == 0 {
			want = api.ErrFail
		}
		got, e := hand.Written(s.h, s.n)
		if !slices.Equal(got, due) || e != want {
			t.Fatalf("Written of %v, %v: %q, %v; want %q", s.h, s.n, got, e, due)
		}
		var values []int
		for _, text := range due {
			v, _ := hand.Value(text)
			values = append(values, v)
			if !hand.ProveWritten(s.h, s.n, text) {
				t.Fatalf("ProveWritten of %v, %v, %q", s.h, s.n, text)
			}
		}
		slices.Sort(values)
		if got, e := hand.Values(s.h, s.n); !slices.Equal(got, values) || e != want {
			t.Fatalf("Values of %v, %v: %v, %v; want %v", s.h, s.n, got, e, values)
		}
		var bounds hand.Range
		if len(values) > 0 {
			bounds = hand.Range{Lo: values[0], Hi: values[len(values)-1]}
		}
		if got, e := hand.Bounds(s.h, s.n); got != bounds || e != want {
			t.Fatalf("Bounds of %v, %v: %v, %v; want %v", s.h, s.n, got, e, bounds)
		}
	}
}

// TestP1_2Oracle compares ProveWritten with the definition, of texts that are
// often not among those that can have been written.
func TestP1_2Oracle(t *testing.T) {
	r := rand.New(rand.NewSource(2))
	for _, s := range samples(2000, false) {
		text := pick(r, s.text, someShape(r), s.n.Readings[0].Text)
		_, e := hand.Value(text)
		due := e == api.OK && can(s.h, s.n, text)
		if got := hand.ProveWritten(s.h, s.n, text); got != due {
			t.Fatalf("ProveWritten of %v, %v, %q: %v", s.h, s.n, text, got)
		}
	}
}

func TestP1_6WhatWasWritten(t *testing.T) {
	for _, s := range samples(2000, true) {
		value, _ := hand.Value(s.text)
		if l, e := hand.Written(s.h, s.n); !slices.Contains(l, s.text) || e != api.OK {
			t.Fatalf("Written of %v, %v: %q, %v without %q", s.h, s.n, l, e, s.text)
		}
		if l, e := hand.Values(s.h, s.n); !slices.Contains(l, value) || e != api.OK {
			t.Fatalf("Values of %v, %v: %v, %v without %d", s.h, s.n, l, e, value)
		}
		if b, e := hand.Bounds(s.h, s.n); value < b.Lo || value > b.Hi || e != api.OK {
			t.Fatalf("Bounds of %v, %v: %v, %v without %d", s.h, s.n, b, e, value)
		}
		if l, e := hand.Leave(s.h, s.n); len(l) > 0 || e != api.OK {
			t.Fatalf("Leave of %v, %v: %v, %v", s.h, s.n, l, e)
		}
	}
}

func TestP1_7TextsAndValues(t *testing.T) {
	texts := allTexts()
	for value, text := range texts {
		if s, e := hand.Spell(value); s != text || e != api.OK {
			t.Fatalf("Spell(%d) = %q, %v; want %q", value, s, e, text)
		}
		if v, e := hand.Value(text); v != value || e != api.OK {
			t.Fatalf("Value(%q) = %d, %v; want %d", text, v, e, value)
		}
	}
	if len(texts) != api.MaxHandValue+1 {
		t.Fatalf("%d texts", len(texts))
	}
	many := 0
	for _, s := range allShapes(api.MaxHandDigits) {
		v, e := hand.Value(s)
		if e == api.OK {
			many++
		}
		if e == api.OK && texts[v] != s || e != api.OK && (v != 0 || e != api.ErrForm) {
			t.Fatalf("Value(%q) = %d, %v", s, v, e)
		}
	}
	if many != len(texts) {
		t.Fatalf("%d strings that have a shape are texts; want %d", many, len(texts))
	}
}

// leftOut returns how many readings have to be left out: all, if there is no other way.
func leftOut(h hand.Hand, n hand.Note) int {
	l, e := hand.Leave(h, n)
	if e != api.OK {
		return len(n.Readings)
	}
	return len(l)
}

// isPart reports whether all of the first list's elements are in the second one.
func isPart(part, whole []string) bool {
	for _, s := range part {
		if !slices.Contains(whole, s) {
			return false
		}
	}
	return true
}

func TestP1_8MoreReadings(t *testing.T) {
	r := rand.New(rand.NewSource(8))
	for _, s := range samples(1000, false) {
		if len(s.n.Readings) == api.MaxHandReadings {
			s.n.Readings = s.n.Readings[1:]
		}
		clerk := r.Intn(len(s.h.Clerks))
		more := with(s.n, clerk, pick(r, someShape(r), readBy(r, s.h, clerk, s.text)))
		before, _ := hand.Written(s.h, s.n)
		after, _ := hand.Written(s.h, more)
		if !isPart(after, before) {
			t.Fatalf("%v, %v: %q, with one more reading %q", s.h, more, before, after)
		}
		if a, b := leftOut(s.h, s.n), leftOut(s.h, more); b < a {
			t.Fatalf("%v, %v: %d left out, with one more reading %d", s.h, more, a, b)
		}
		r.Shuffle(len(more.Readings), func(i, j int) {
			more.Readings[i], more.Readings[j] = more.Readings[j], more.Readings[i]
		})
		if turned, _ := hand.Written(s.h, more); !slices.Equal(turned, after) {
			t.Fatalf("%v, %v: %q, in another order %q", s.h, more, turned, after)
		}
	}
}

func TestP1_9MoreErrors(t *testing.T) {
	r := rand.New(rand.NewSource(9))
	for _, s := range samples(1000, false) {
		wider := copyOf(s).h
		clerk := r.Intn(len(wider.Clerks))
		p := hand.Pair{Written: sign(r), Read: sign(r)}
		pairs := wider.Clerks[clerk]
		if r.Intn(2) == 0 && wider.Errors < api.MaxHandErrors {
			wider.Errors++
		} else if p.Written != p.Read && !slices.Contains(pairs, p) && len(pairs) < api.MaxHandPairs {
			wider.Clerks[clerk] = append(pairs, p)
		}
		before, _ := hand.Written(s.h, s.n)
		after, _ := hand.Written(wider, s.n)
		if !isPart(before, after) {
			t.Fatalf("%v, %v: %q, by %v %q", s.h, s.n, before, wider, after)
		}
		if a, b := leftOut(s.h, s.n), leftOut(wider, s.n); b > a {
			t.Fatalf("%v, %v: %d left out, by %v %d", s.h, s.n, a, wider, b)
		}
	}
}

func TestP1_10TheCheck(t *testing.T) {
	for _, s := range samples(500, false) {
		s.n.Check = hand.None
		times := map[string]int{}
		for check := range 9 {
			n := note(check, s.n.Readings...)
			l, _ := hand.Written(s.h, n)
			for _, text := range l {
				times[text]++
			}
		}
		l, _ := hand.Written(s.h, s.n)
		for _, text := range l {
			if times[text] != 1 {
				t.Fatalf("%v, %v: %q with %d check figures", s.h, s.n, text, times[text])
			}
		}
		if len(times) != len(l) {
			t.Fatalf("%v, %v: %q, with check figures %v", s.h, s.n, l, times)
		}
	}
}

// short keeps the samples whose readings have at most two figures before the slash.
func short(list []sample) []sample {
	return slices.DeleteFunc(list, func(s sample) bool {
		return slices.ContainsFunc(s.n.Readings, func(r hand.Reading) bool {
			return len(r.Text) > 2 && r.Text[1] != '/' && r.Text[2] != '/'
		})
	})
}

// TestP1_11AFurtherReading tries each string that has a shape as one more reading.
func TestP1_11AFurtherReading(t *testing.T) {
	shapes := allShapes(2)
	tried := 0
	for _, s := range short(samples(800, false)) {
		texts, e := hand.Written(s.h, s.n)
		for clerk := range s.h.Clerks {
			most := 0
			for _, read := range shapes {
				left := canBeWritten(texts, s.h, with(s.n, clerk, read))
				most = max(most, len(left))
			}
			got, f := hand.Further(s.h, s.n, clerk)
			if got != most || f != e {
				t.Fatalf("Further of %v, %v, %d: %d, %v; want %d, %v", s.h, s.n, clerk, got, f, most, e)
			}
			tried++
		}
	}
	if tried < 300 {
		t.Errorf("only %d samples are short", tried)
	}
}

// TestP1_11Leaves: the further readings of texts that can have been written
// leave no more texts than Further says, and one of them leaves as many.
func TestP1_11Leaves(t *testing.T) {
	r := rand.New(rand.NewSource(11))
	for _, s := range samples(1000, true) {
		if len(s.n.Readings) == api.MaxHandReadings {
			s.n.Readings = s.n.Readings[1:]
		}
		clerk := r.Intn(len(s.h.Clerks))
		texts, _ := hand.Written(s.h, s.n)
		read := readBy(r, s.h, clerk, pick(r, texts...))
		left, e := hand.Written(s.h, with(s.n, clerk, read))
		if most, _ := hand.Further(s.h, s.n, clerk); len(left) > most || e != api.OK {
			t.Fatalf("%v, %v, clerk %d: %q leaves %q, %v; Further %d", s.h, s.n, clerk, read, left, e, most)
		}
	}
}

// TestP1_12LeftOut tries all lists that come before the smallest set.
func TestP1_12LeftOut(t *testing.T) {
	contradict := 0
	for _, s := range samples(3000, false) {
		due, want := []int(nil), api.ErrFail
		for _, list := range lists(len(s.n.Readings)) {
			if _, e := hand.Written(s.h, without(s.n, list)); e == api.OK {
				due, want = list, api.OK
				break
			}
		}
		if len(due) > 0 {
			contradict++
		}
		if got, e := hand.Leave(s.h, s.n); !slices.Equal(got, due) || e != want {
			t.Fatalf("Leave of %v, %v: %v, %v; want %v, %v", s.h, s.n, got, e, due, want)
		}
	}
	if contradict < 300 {
		t.Errorf("only %d samples have readings to be left out", contradict)
	}
}

func TestP1_13NoErrors(t *testing.T) {
	for _, s := range samples(1000, false) {
		s.h.Errors = 0
		if l, _ := hand.Written(s.h, s.n); len(l) > 1 {
			t.Fatalf("Written of %v, %v: %q", s.h, s.n, l)
		}
		for i := range s.n.Readings {
			s.n.Readings[i].Text = s.text
		}
		for _, check := range []int{hand.None, checkOf(s.text)} {
			s.n.Check = check
			if l, e := hand.Written(s.h, s.n); !slices.Equal(l, []string{s.text}) || e != api.OK {
				t.Fatalf("Written of %v, %v: %q, %v", s.h, s.n, l, e)
			}
		}
	}
}

func TestP1_14Misread(t *testing.T) {
	r := rand.New(rand.NewSource(14))
	for _, s := range samples(2000, true) {
		clerk := r.Intn(len(s.h.Clerks))
		if many, e := hand.Misread(s.h, clerk, s.text, s.text); many != 0 || e != api.OK {
			t.Fatalf("Misread of %v, %q as itself: %d, %v", s.h, s.text, many, e)
		}
		read := pick(r, readBy(r, s.h, clerk, s.text), readBy(r, s.h, clerk, s.text), someShape(r))
		due, ok := reads(s.h, clerk, s.text, read)
		many, e := hand.Misread(s.h, clerk, s.text, read)
		if ok && (many != due || e != api.OK) || !ok && (many != 0 || e != api.ErrFalse) {
			t.Fatalf("Misread of %v, %d, %q as %q: %d, %v; want %d", s.h, clerk, s.text, read, many, e, due)
		}
		if many > s.h.Errors || many > len(s.text) || e == api.OK && (many == 0) != (s.text == read) {
			t.Fatalf("Misread of %v, %d, %q as %q: %d", s.h, clerk, s.text, read, many)
		}
	}
}

// TestP1Widest: the widest hand, by which most can have been written, is read
// in little time.
func TestP1Widest(t *testing.T) {
	var to, from []hand.Pair
	for n := 2; n < 10; n++ {
		to = append(to, hand.Pair{Written: n, Read: 1})
		from = append(from, hand.Pair{Written: 1, Read: n})
	}
	h := hand.Hand{Clerks: [][]hand.Pair{to, from}, Errors: 3}
	n := note(hand.None, by(0, "1111/1"))
	texts, e := hand.Written(h, n)
	if due := canBeWritten(allTexts(), h, n); !slices.Equal(texts, due) || e != api.OK {
		t.Errorf("Written: %d, %v; want %d", len(texts), e, len(due))
	}
	if most, e := hand.Further(h, n, 0); most != len(texts) || e != api.OK {
		t.Errorf("Further by the first clerk: %d, %v; want %d", most, e, len(texts))
	}
	due := 0
	for _, read := range append(slices.Clone(texts), "9999/9", "2222/2", "1222/2", "9111/9") {
		due = max(due, len(canBeWritten(texts, h, with(n, 1, read))))
	}
	if most, e := hand.Further(h, n, 1); most != due || e != api.OK {
		t.Errorf("Further by the second clerk: %d, %v; want %d", most, e, due)
	}
}
