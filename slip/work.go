package slip

import (
	"iter"
	"maps"

	"contango/api"
	"contango/hand"
)

// pair is two slips, the smaller number first.
type pair struct{ low, high int }

// work is a day at work: its deals are those of all slips that can be partners.
type work struct {
	Day
	deals map[pair]deal
}

// pairOf returns the pair of two slips.
func pairOf(a, b int) pair { return pair{low: min(a, b), high: max(a, b)} }

// has reports whether the slip is one of the pair.
func (p pair) has(slip int) bool { return slip == p.low || slip == p.high }

// open returns the day at work, or the error of the day.
func open(d Day) (work, api.Errno) {
	if e := hand.CheckHand(d.Hand); e != api.OK {
		return work{}, e
	}
	if !d.isFew() {
		return work{}, api.ErrLimit
	}
	if !d.isValid() {
		return work{}, api.ErrArg
	}
	said := make([]deal, len(d.Slips))
	for slip, s := range d.Slips {
		x, ok := d.read(s)
		if !ok {
			return work{}, api.ErrArg
		}
		said[slip] = x
	}
	return begin(d, said), api.OK
}

// begin returns the valid day at work, when this is what each slip can mean.
func begin(d Day, said []deal) work {
	w := work{Day: d, deals: map[pair]deal{}}
	for high := range len(d.Slips) {
		for low := range high {
			if !d.fit(d.Slips[low], d.Slips[high]) {
				continue
			}
			if both, ok := said[low].with(said[high]); ok {
				w.deals[pairOf(low, high)] = both
			}
		}
	}
	return w
}

// can reports whether the slips can be partners.
func (w work) can(a, b int) bool {
	_, ok := w.deals[pairOf(a, b)]
	return ok
}

// partners returns all slips that can be the partner of this one, in increasing order.
func (w work) partners(slip int) iter.Seq[int] {
	return func(yield func(int) bool) {
		for other := range len(w.Slips) {
			if w.can(slip, other) && !yield(other) {
				return
			}
		}
	}
}

// pairs returns all pairs of slips that can be partners, in lexicographic order.
func (w work) pairs() iter.Seq[pair] {
	return func(yield func(pair) bool) {
		for slip := range len(w.Slips) {
			for other := range w.partners(slip) {
				p := pair{low: slip, high: other}
				if p == pairOf(slip, other) && !yield(p) {
					return
				}
			}
		}
	}
}

// without returns the day on which pairs like these may not be partners.
func (w work) without(left func(pair) bool) work {
	kept := work{Day: w.Day, deals: maps.Clone(w.deals)}
	maps.DeleteFunc(kept.deals, func(p pair, _ deal) bool { return left(p) })
	return kept
}
