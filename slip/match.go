package slip

import (
	"slices"

	"contango/api"
)

// matching has for each slip its partner, or None.
type matching [api.MaxSlipSlips]int

// alone returns the matching without pairs.
func alone() matching {
	var m matching
	for slip := range m {
		m[slip] = None
	}
	return m
}

// list returns the partners of so many slips.
func (m matching) list(slips int) []int { return slices.Clone(m[:slips]) }

// pairs returns how many pairs the matching has.
func (m matching) pairs() int {
	many := 0
	for slip, other := range m {
		if other > slip {
			many++
		}
	}
	return many
}

// turned returns for each slip the last one whose partner it is, or None.
func (m matching) turned() matching {
	t := alone()
	for slip, other := range m {
		if other != None {
			t[other] = slip
		}
	}
	return t
}

// asMatching returns the list as a matching, and whether it is one.
func (w work) asMatching(list []int) (matching, bool) {
	m := alone()
	if len(list) != len(w.Slips) {
		return m, false
	}
	for slip, other := range list {
		if other != None && !w.can(slip, other) {
			return m, false
		}
		m[slip] = other
	}
	return m, m.turned() == m
}

// best returns a best matching. A slip without a path has none later, either,
// so each one is tried once.
func (w work) best() matching {
	m := alone()
	for slip, s := range w.Slips {
		if s.Bought {
			m = w.changed(m, slip)
		}
	}
	return m
}

// changed returns the matching with a partner for this slip, which has none. For
// that, partners are changed along a path: a slip's new partner is one without a
// partner, or one whose last partner finds another. Without such a path the
// matching stays as it is.
func (w work) changed(m matching, from int) matching {
	var tried [api.MaxSlipSlips]bool
	var change func(slip int) bool
	change = func(slip int) bool {
		tried[slip] = true
		found := false
	search:
		for other := range w.partners(slip) {
			last := m[other]
			if last == None || !tried[last] && change(last) {
				m[slip], m[other] = other, slip
				found = true
				break search
			}
		}
		return found
	}
	change(from)
	return m
}

// isCover reports whether of any two slips that can be partners one at least is
// in the list.
func (w work) isCover(list []int) bool {
	for p := range w.pairs() {
		if !slices.ContainsFunc(list, p.has) {
			return false
		}
	}
	return true
}

// most returns how many pairs a best matching has.
func (w work) most() int { return w.best().pairs() }

// isSure reports whether the slips are partners in each best matching.
func (w work) isSure(p pair) bool {
	return w.without(func(q pair) bool { return q == p }).most() < w.most()
}

// isPossible reports whether two slips that can be partners are so in some best
// matching.
func (w work) isPossible(p pair) bool {
	rest := w.without(func(q pair) bool { return q.has(p.low) || q.has(p.high) })
	return rest.most()+1 == w.most()
}

// canBeLeft reports whether the slip has no partner in some best matching.
func (w work) canBeLeft(slip int) bool {
	return w.without(func(q pair) bool { return q.has(slip) }).most() == w.most()
}
