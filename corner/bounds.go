package corner

import "contango/lists"

// spot is a house with what is left of the shares for it and for those after it.
type spot struct{ house, left int }

// choice is how many shares a house has, and the sum of what is counted of it and
// of those after it.
type choice struct{ held, sum int }

// end is one of the ends of the shortage: that at which the sum of what is counted
// of all houses, at their positions, is least.
type end struct{ counted func(House, int) int }

// lowest returns a truth in which the shortage is the minimum.
func (m Market) lowest() []int { return m.truthAt(end{counted: House.missing}) }

// highest returns a truth in which the shortage is the maximum.
func (m Market) highest() []int { return m.truthAt(end{counted: House.surplus}) }

// shortage returns the bounds of the shortage.
func (m Market) shortage() Range {
	return Range{Lo: m.begin(m.lowest()).shortage(), Hi: m.begin(m.highest()).shortage()}
}

// isSurelyCornered reports whether the stock is cornered in each truth.
func (m Market) isSurelyCornered() bool { return m.begin(m.lowest()).isCornered() }

// mayBeCornered reports whether the stock is cornered in some truth.
func (m Market) mayBeCornered() bool { return m.begin(m.highest()).isCornered() }

// isCorner reports whether all of these houses would sell, and the stock were
// surely cornered if none of them would.
func (m Market) isCorner(houses []int) bool {
	return lists.All(houses, m.wouldSell) && m.shut(houses...).isSurelyCornered()
}

// after returns the spot after this one, at which this choice is made.
func (s spot) after(c choice) spot { return spot{house: s.house + 1, left: s.left - c.held} }

// choices returns how many shares the house can have, so that those after it can
// have the rest.
func (m Market) choices(s spot) Range {
	held, after := m.Houses[s.house].Held, m.held(s.house+1)
	return Range{Lo: lists.Greatest(held.Lo, s.left-after.Hi), Hi: lists.Least(held.Hi, s.left-after.Lo)}
}

// truthAt returns a truth at this end. The market must have a truth.
func (m Market) truthAt(x end) []int {
	owed := m.positions(nil)
	known := map[spot]choice{}
	var choose func(s spot) choice
	choose = func(s spot) choice {
		if s.house == len(m.Houses) {
			return choice{}
		}
		if c, ok := known[s]; ok {
			return c
		}
		var best choice
		held := m.choices(s)
		for n := range held.Hi - held.Lo + 1 {
			c := choice{held: held.Lo + n}
			c.sum = x.counted(m.Houses[s.house], c.held+owed[s.house]) + choose(s.after(c)).sum
			if n == 0 || c.sum < best.sum {
				best = c
			}
		}
		known[s] = best
		return best
	}
	truth := make([]int, len(m.Houses))
	s := spot{left: m.Exist}
	for house := range truth {
		c := choose(s)
		truth[house] = c.held
		s = s.after(c)
	}
	return truth
}
