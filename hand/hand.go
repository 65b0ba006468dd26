// Package hand is layer 1: see shared/doc/01-hand.md.
//
// It reads figures that clerks take for others: from what they have read, and
// from a check figure, it returns everything that can have been written.
package hand

import (
	"cmp"
	"slices"
	"strconv"

	"contango/api"
	"contango/lists"
)

// Pair is a figure that was written, and the one that a clerk can take it for.
type Pair struct{ Written, Read int }

// Hand has the pairs of each clerk, and how many figures one may misread at most.
type Hand struct {
	Clerks [][]Pair
	Errors int
}

// Reading is what a clerk read.
type Reading struct {
	Clerk int
	Text  string
}

// Note is what several clerks read of one text, with its check figure or None.
type Note struct {
	Readings []Reading
	Check    int
}

// Range has all whole numbers from Lo to Hi.
type Range struct{ Lo, Hi int }

// None is the Check of a note without a check figure.
const None = -1

// CheckHand returns the error of the hand, or OK.
func CheckHand(h Hand) api.Errno {
	if len(h.Clerks) > api.MaxHandClerks || !lists.All(h.Clerks, fewPairs) {
		return api.ErrLimit
	}
	limits := Range{Lo: 0, Hi: api.MaxHandErrors}
	if len(h.Clerks) == 0 || !limits.has(h.Errors) || !lists.All(h.Clerks, validPairs) {
		return api.ErrArg
	}
	return api.OK
}

// Value returns the value of the text, in eighths.
func Value(text string) (int, api.Errno) {
	f, ok := parseText(text)
	if !ok {
		return 0, api.ErrForm
	}
	return f.value(), api.OK
}

// Spell returns the text that has the value.
func Spell(value int) (string, api.Errno) {
	values := Range{Lo: 0, Hi: api.MaxHandValue}
	if !values.has(value) {
		return "", api.ErrRange
	}
	whole := strconv.Itoa(value / eighths)
	if value%eighths == 0 {
		return whole, api.OK
	}
	return whole + slash + strconv.Itoa(value%eighths), api.OK
}

// Misread returns how many figures of the text the clerk misreads who reads it so.
func Misread(h Hand, clerk int, text, read string) (int, api.Errno) {
	if e := CheckHand(h); e != api.OK {
		return 0, e
	}
	if !h.hasClerk(clerk) {
		return 0, api.ErrRange
	}
	from, isText := parseText(text)
	to, isShape := parse(read)
	if !isText || !isShape {
		return 0, api.ErrForm
	}
	many, ok := begin(h).misread(clerk, from, to)
	if !ok {
		return 0, api.ErrFalse
	}
	return many, api.OK
}

// Written returns all texts that can have been written, in lexicographic order.
func Written(h Hand, n Note) ([]string, api.Errno) {
	return writtenAs(h, n, figures.spell)
}

// Values returns the values of all texts that can have been written, in increasing order.
func Values(h Hand, n Note) ([]int, api.Errno) {
	return writtenAs(h, n, figures.value)
}

// Bounds returns the least and the greatest value that can have been written.
func Bounds(h Hand, n Note) (Range, api.Errno) {
	values, e := Values(h, n)
	if e != api.OK {
		return Range{}, e
	}
	return Range{Lo: lists.Least(values[0], values[1:]...), Hi: slices.Max(values)}, api.OK
}

// Further returns how many texts one more reading by the clerk leaves at most.
func Further(h Hand, n Note, clerk int) (int, api.Errno) {
	w, e := open(h, n)
	if e != api.OK {
		return 0, e
	}
	if !h.hasClerk(clerk) {
		return 0, api.ErrRange
	}
	most := w.further(clerk)
	if most == 0 {
		return 0, api.ErrFail
	}
	return most, api.OK
}

// Leave returns the smallest set of readings without which something can have been written.
func Leave(h Hand, n Note) ([]int, api.Errno) {
	w, e := open(h, n)
	if e != api.OK {
		return nil, e
	}
	left, ok := w.smallestSet()
	if !ok {
		return nil, api.ErrFail
	}
	return left, api.OK
}

// ProveWritten reports whether hand and note are valid, and the text can have been written.
func ProveWritten(h Hand, n Note, text string) bool {
	w, e := open(h, n)
	if e != api.OK {
		return false
	}
	f, ok := parse(text)
	return ok && w.allows(f)
}

// writtenAs returns what all texts are that can have been written, in increasing order.
func writtenAs[T cmp.Ordered](h Hand, n Note, of func(figures) T) ([]T, api.Errno) {
	w, e := open(h, n)
	if e != api.OK {
		return nil, e
	}
	var list []T
	for f := range w.written() {
		list = append(list, of(f))
	}
	if len(list) == 0 {
		return nil, api.ErrFail
	}
	slices.Sort(list)
	return list, api.OK
}
