package hand

import (
	"iter"

	"contango/api"
	"contango/lists"
)

// work is a note at work.
type work struct {
	Hand
	counts   []pairCount // of each clerk
	readings []seen
	check    int
}

// seen is a reading whose text has been parsed.
type seen struct {
	clerk int
	read  figures
}

// begin returns a valid hand at work, without readings.
func begin(h Hand) work {
	w := work{Hand: h, check: None}
	for _, clerk := range h.Clerks {
		w.counts = append(w.counts, countPairs(clerk))
	}
	return w
}

// open returns the note at work, or the error of hand or note.
func open(h Hand, n Note) (work, api.Errno) {
	if e := CheckHand(h); e != api.OK {
		return work{}, e
	}
	if len(n.Readings) > api.MaxHandReadings {
		return work{}, api.ErrLimit
	}
	known := func(r Reading) bool { return h.hasClerk(r.Clerk) }
	checks := Range{Lo: None, Hi: modulus - 1}
	if len(n.Readings) == 0 || !lists.All(n.Readings, known) || !checks.has(n.Check) {
		return work{}, api.ErrRange
	}
	w := begin(h)
	w.check = n.Check
	for _, r := range n.Readings {
		f, ok := parse(r.Text)
		if !ok {
			return work{}, api.ErrForm
		}
		w.readings = append(w.readings, seen{clerk: r.Clerk, read: f})
	}
	return w, api.OK
}

// misread returns how many figures the clerk misreads who reads the text so,
// and whether he can.
func (w work) misread(clerk int, text, read figures) (int, bool) {
	if text == read {
		return 0, true
	}
	many := 0
	for place := range len(text) {
		p := Pair{Written: text[place], Read: read[place]}
		if p.Written == p.Read {
			continue
		}
		if w.counts[clerk][p] == 0 {
			return 0, false
		}
		many++
	}
	return many, many <= w.Errors
}

// allows reports whether the figures are those of a text that can have been written.
func (w work) allows(f figures) bool {
	if !f.isText() || w.check != None && w.check != f.check() {
		return false
	}
	return lists.All(w.readings, func(r seen) bool {
		_, ok := w.misread(r.clerk, f, r.read)
		return ok
	})
}

// changed returns all figures that the given ones become if the clerk misreads
// no more of them than he may, one way or the other.
func (w work) changed(clerk int, given figures, by way) iter.Seq[figures] {
	return func(yield func(figures) bool) {
		f := given
		var spell func(place, changes int) bool
		spell = func(place, changes int) bool {
			if place == len(f) {
				return yield(f)
			}
			if !spell(place+1, changes) {
				return false
			}
			if changes == 0 {
				return true
			}
			for _, p := range w.Clerks[clerk] {
				from, to := by.over(p)
				if from != given[place] {
					continue
				}
				f[place] = to
				if !spell(place+1, changes-1) {
					return false
				}
			}
			f[place] = given[place]
			return true
		}
		spell(0, w.Errors)
	}
}

// written returns all texts that can have been written, each once. All of them
// are among those that the first reading allows.
func (w work) written() iter.Seq[figures] {
	return func(yield func(figures) bool) {
		first := w.readings[0]
		for f := range w.changed(first.clerk, first.read, way{over: Pair.back}) {
			if w.allows(f) && !yield(f) {
				return
			}
		}
	}
}

// contradictory reports whether nothing can have been written.
func (w work) contradictory() bool {
	for range w.written() {
		return false
	}
	return true
}

// further returns how many texts a further reading leaves at most: 0 if the
// readings contradict each other.
func (w work) further(clerk int) int {
	left := map[figures]int{}
	most := 0
	for text := range w.written() {
		for read := range w.changed(clerk, text, way{over: Pair.forth}) {
			left[read]++
			most = max(most, left[read])
		}
	}
	return most
}

// without returns the note without the readings of these indexes.
func (w work) without(left []int) work {
	w.readings = lists.Others(w.readings, 0, left)
	return w
}

// smallestSet returns the smallest set, and whether there is one. Some reading
// has to be left.
func (w work) smallestSet() ([]int, bool) {
	many := len(w.readings)
	return lists.Smallest(many, many-1, func(left []int) bool {
		return !w.without(left).contradictory()
	})
}
