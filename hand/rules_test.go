package hand_test

import (
	"math/rand"
	"reflect"
	"slices"
	"testing"

	"contango/api"
	"contango/hand"
)

// result is what a call returned, and its error.
type result struct {
	call  string
	value any
	e     api.Errno
}

// callAll calls every function that has a hand and a note.
func callAll(h hand.Hand, n hand.Note, clerk int) []result {
	written, e1 := hand.Written(h, n)
	values, e2 := hand.Values(h, n)
	bounds, e3 := hand.Bounds(h, n)
	further, e4 := hand.Further(h, n, clerk)
	left, e5 := hand.Leave(h, n)
	return []result{{"Written", written, e1}, {"Values", values, e2}, {"Bounds", bounds, e3}, {"Further", further, e4}, {"Leave", left, e5}}
}

// isZero reports whether a result is the zero value of its type, or an empty list.
func isZero(x any) bool {
	v := reflect.ValueOf(x)
	return v.IsZero() || v.Kind() == reflect.Slice && v.Len() == 0
}

// TestR1Notes: the errors of hand and note come in the order of the table, each
// input being wrong in all that follows, too.
func TestR1Notes(t *testing.T) {
	valid := exampleHand(1)
	wrong := by(0, "x")
	for _, x := range []struct {
		name string
		h    hand.Hand
		n    hand.Note
		e    api.Errno
	}{
		{"too many clerks", hand.Hand{Clerks: make([][]hand.Pair, 4), Errors: 4}, note(9, wrong, wrong, wrong, wrong, wrong), api.ErrLimit},
		{"too many pairs", hand.Hand{Clerks: [][]hand.Pair{nil, make([]hand.Pair, 9)}, Errors: 4}, note(9, wrong), api.ErrLimit},
		{"hand not valid", exampleHand(4), note(9, wrong, wrong, wrong, wrong, wrong), api.ErrArg},
		{"too many readings", valid, note(9, by(5, "x"), wrong, wrong, wrong, wrong), api.ErrLimit},
		{"no reading", valid, note(hand.None), api.ErrRange},
		{"no reading, and no such check figure", valid, note(9), api.ErrRange},
		{"no such clerk", valid, note(hand.None, wrong, by(2, "1")), api.ErrRange},
		{"a clerk below 0", valid, note(hand.None, wrong, by(-1, "1")), api.ErrRange},
		{"a check figure above 8", valid, note(9, wrong), api.ErrRange},
		{"a check figure below None", valid, note(-2, wrong), api.ErrRange},
		{"no shape", valid, note(hand.None, by(0, "1"), wrong), api.ErrForm},
		{"an empty string", valid, note(hand.None, by(0, "1"), by(0, "")), api.ErrForm},
		{"five figures", valid, note(hand.None, by(0, "11111")), api.ErrForm},
		{"two figures after the slash", valid, note(hand.None, by(0, "1/11")), api.ErrForm},
	} {
		for _, r := range callAll(x.h, x.n, 9) {
			if r.e != x.e || !isZero(r.value) {
				t.Errorf("%s, %s: %v, %v; want %v", r.call, x.name, r.value, r.e, x.e)
			}
		}
	}
}

// TestR1Rows: the rows of a call come after those that begin with "all".
func TestR1Rows(t *testing.T) {
	h := exampleHand(1)
	fails := note(hand.None, by(0, "1"), by(1, "7"))
	for _, clerk := range []int{-1, 2, 1 << 40} {
		if m, e := hand.Further(h, fails, clerk); m != 0 || e != api.ErrRange {
			t.Errorf("Further by the clerk %d: %d, %v", clerk, m, e)
		}
	}
	for _, x := range []struct {
		name       string
		h          hand.Hand
		clerk      int
		text, read string
		e          api.Errno
	}{
		{"too many clerks", hand.Hand{Clerks: make([][]hand.Pair, 4)}, 9, "x", "x", api.ErrLimit},
		{"hand not valid", hand.Hand{}, 9, "x", "x", api.ErrArg},
		{"no such clerk", h, 2, "x", "x", api.ErrRange},
		{"clerk below 0", h, -1, "x", "x", api.ErrRange},
		{"the first string has no shape", h, 0, "x", "1", api.ErrForm},
		{"the first string is no text", h, 0, "01", "1", api.ErrForm},
		{"the first string has no eighth", h, 0, "1/8", "1/7", api.ErrForm},
		{"the second string has no shape", h, 0, "1", "1/", api.ErrForm},
		{"both", h, 0, "", "", api.ErrForm},
		{"cannot be read", h, 0, "1", "2", api.ErrFalse},
	} {
		if m, e := hand.Misread(x.h, x.clerk, x.text, x.read); m != 0 || e != x.e {
			t.Errorf("Misread, %s: %d, %v; want %v", x.name, m, e, x.e)
		}
	}
}

// TestR3Empty: nil and a list without elements are the same.
func TestR3Empty(t *testing.T) {
	if e := hand.CheckHand(hand.Hand{Clerks: [][]hand.Pair{}}); e != api.ErrArg {
		t.Errorf("CheckHand without clerks: %v", e)
	}
	for _, clerk := range [][]hand.Pair{nil, {}} {
		h := hand.Hand{Clerks: [][]hand.Pair{clerk}, Errors: 3}
		if l, e := hand.Written(h, note(hand.None, by(0, "12"))); !slices.Equal(l, []string{"12"}) || e != api.OK {
			t.Errorf("Written by a clerk without pairs: %q, %v", l, e)
		}
		if _, e := hand.Written(h, hand.Note{Readings: []hand.Reading{}}); e != api.ErrRange {
			t.Errorf("Written without readings: %v", e)
		}
	}
}

// copyOf returns the sample in memory of its own.
func copyOf(s sample) sample {
	c := sample{h: hand.Hand{Errors: s.h.Errors}, n: hand.Note{Check: s.n.Check}, text: s.text}
	for _, clerk := range s.h.Clerks {
		c.h.Clerks = append(c.h.Clerks, slices.Clone(clerk))
	}
	c.n.Readings = slices.Clone(s.n.Readings)
	return c
}

// TestR4Memory: arguments are not written to, results share no memory.
func TestR4Memory(t *testing.T) {
	for _, s := range samples(100, false) {
		before := copyOf(s)
		first := callAll(s.h, s.n, 0)
		kept := callAll(s.h, s.n, 0)
		for _, r := range first {
			switch l := r.value.(type) {
			case []string:
				clear(l)
			case []int:
				clear(l)
			}
		}
		if !reflect.DeepEqual(s, before) {
			t.Fatalf("%v has become %v", before, s)
		}
		if again := callAll(s.h, s.n, 0); !reflect.DeepEqual(kept, again) {
			t.Fatalf("%v: %v, and then %v", s, kept, again)
		}
	}
}

// anyNumber returns numbers within limits, near them, and far away.
func anyNumber(r *rand.Rand) int {
	return pick(r, 0, 1, 1, 2, 3, 7, 7, 8, 9, 10, -1, -2, 1<<63-1, -1<<63, r.Int(), -r.Int())
}

// anyString returns strings that often have a shape.
func anyString(r *rand.Rand) string {
	if r.Intn(2) == 0 {
		return someShape(r)
	}
	b := make([]byte, r.Intn(8))
	for i := range b {
		b[i] = pick(r, byte('0'), '1', '7', '8', '9', '/', ':', '-', ' ', 'x', 0, 255)
	}
	return string(b)
}

// anyLength returns a length that is often valid, and rarely great.
func anyLength(r *rand.Rand) int { return pick(r, 0, 1, 1, 2, 2, 3, 3, 4, 5, 9, 1000) }

// TestP1Returns: no call panics, and each has a zero value with its error,
// whatever its arguments are.
func TestP1Returns(t *testing.T) {
	r := rand.New(rand.NewSource(12))
	for range 5000 {
		var h hand.Hand
		for range anyLength(r) {
			clerk := make([]hand.Pair, anyLength(r)%12)
			for i := range clerk {
				clerk[i] = hand.Pair{Written: anyNumber(r), Read: anyNumber(r)}
			}
			h.Clerks = append(h.Clerks, clerk)
		}
		h.Errors = anyNumber(r)
		if r.Intn(3) > 0 {
			h = someHand(r)
		}
		n := hand.Note{Check: pick(r, hand.None, anyNumber(r))}
		for range anyLength(r) {
			n.Readings = append(n.Readings, by(pick(r, 0, anyNumber(r)), anyString(r)))
		}
		text := anyString(r)
		hand.CheckHand(h)
		hand.Value(text)
		hand.Spell(anyNumber(r))
		hand.Misread(h, anyNumber(r), text, anyString(r))
		isWritten := hand.ProveWritten(h, n, text)
		for _, x := range callAll(h, n, anyNumber(r)) {
			if x.e != api.OK && !isZero(x.value) {
				t.Fatalf("%s of %v, %v: %v, %v", x.call, h, n, x.value, x.e)
			}
			if x.e != api.OK && x.call == "Written" && isWritten {
				t.Fatalf("ProveWritten of %v, %v, %q", h, n, text)
			}
		}
	}
}

// TestP7Order: in another order of the readings the same can have been written,
// and as many have to be left out.
func TestP7Order(t *testing.T) {
	for _, s := range samples(300, false) {
		turned := note(s.n.Check, slices.Clone(s.n.Readings)...)
		slices.Reverse(turned.Readings)
		for i, r := range callAll(s.h, s.n, 0) {
			other := callAll(s.h, turned, 0)[i]
			if r.call == "Leave" {
				r.value, other.value = len(r.value.([]int)), len(other.value.([]int))
			}
			if !reflect.DeepEqual(r, other) {
				t.Fatalf("%v, %v: %v; in another order %v", s.h, s.n, r, other)
			}
		}
	}
}
