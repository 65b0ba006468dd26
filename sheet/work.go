package sheet

import (
	"iter"

	"contango/api"
	"contango/lists"
)

// entries is a set of entries, a bit for each.
type entries uint

// has reports whether the entry is one of the set.
func (s entries) has(entry int) bool { return s>>entry&1 == 1 }

// with returns the set with this entry, too.
func (s entries) with(entry int) entries { return s | 1<<entry }

// moment is the end of a day, or some time of it, with the entries that have
// happened by then. It tells the scene, too: in whatever order they happened,
// these entries have led each sheet to the same house, and left the same loans open.
type moment struct {
	day  int
	done entries
}

// known is what is known of the end of a day.
type known struct {
	scene
	isTrue bool   // whether it is so in some truth
	next   moment // the end of the next day, in such a truth
}

// work is a register at work, with each end of a day that can be reached, as far
// as the days up to it tell.
type work struct {
	Register
	reached map[moment]known
}

// begin returns the moment before the first day.
func begin() moment { return moment{day: -1} }

// isLast reports whether there is no day after this one.
func (m moment) isLast() bool { return m.day == api.MaxSheetDay }

// after returns the moment after the entry, on the same day.
func (m moment) after(entry int) moment { return moment{day: m.day, done: m.done.with(entry)} }

// follow returns the register at work.
func (r Register) follow() *work {
	w := &work{Register: r, reached: map[moment]known{}}
	var reach func(m moment, s scene) bool
	reach = func(m moment, s scene) bool {
		if k, ok := w.reached[m]; ok {
			return k.isTrue
		}
		k := known{scene: s, isTrue: m.isLast()}
		for next, then := range w.tomorrow(m, s) {
			if reach(next, then) {
				k.isTrue, k.next = true, next
			}
		}
		w.reached[m] = k
		return k.isTrue
	}
	reach(begin(), r.start())
	return w
}

// tomorrow returns all ends of the next day, if there is one, that can come
// after the end of this day, with their scenes.
func (w *work) tomorrow(m moment, s scene) iter.Seq2[moment, scene] {
	return func(yield func(moment, scene) bool) {
		var happen func(m moment, s scene, from int) bool
		happen = func(m moment, s scene, from int) bool {
			if w.canEnd(m, s) && !yield(m, s) {
				return false
			}
			for entry := range w.next(m, s, from) {
				if !happen(m.after(entry), s.after(w.Entries[entry]), entry+1) {
					return false
				}
			}
			return true
		}
		if !m.isLast() {
			happen(moment{day: m.day + 1, done: m.done}, s, 0)
		}
	}
}

// next returns the entries, from this number on, that can happen next on the
// same day.
func (w *work) next(m moment, s scene, from int) iter.Seq[int] {
	return func(yield func(int) bool) {
		for i, e := range w.Entries {
			isFree := i >= from && !m.done.has(i) && e.canBeOn(m.day)
			if isFree && s.lets(e) && !yield(i) {
				return
			}
		}
	}
}

// canEnd reports whether the day can end so: no entry has missed its last day,
// and all sights of the day are right.
func (w *work) canEnd(m moment, s scene) bool {
	for i, e := range w.Entries {
		if e.Day.Hi <= m.day && !m.done.has(i) {
			return false
		}
	}
	return lists.All(w.Sights, func(g Sight) bool { return g.Day != m.day || g.isIn(s) })
}

// isTrue reports whether there is a truth.
func (w *work) isTrue() bool { return w.reached[begin()].isTrue }

// hasTruth reports whether the register has a truth.
func (r Register) hasTruth() bool { return r.follow().isTrue() }

// scenes returns all scenes at the end of the day in some truth.
func (w *work) scenes(day int) []scene {
	var list []scene
	for done := range entries(1) << len(w.Entries) {
		if k := w.reached[moment{day: day, done: done}]; k.isTrue {
			list = append(list, k.scene)
		}
	}
	return list
}

// truth returns a truth. There must be one.
func (w *work) truth() []int {
	truth := make([]int, len(w.Entries))
	for m := begin(); !m.isLast(); m = w.reached[m].next {
		for i := range truth {
			if !m.done.has(i) {
				truth[i] = m.day + 1
			}
		}
	}
	return truth
}
