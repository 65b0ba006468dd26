package sheet

import "contango/api"

// nowhere is the house of a sheet that the register does not have.
const nowhere = -1

// scene is in which house each sheet is at some time, and how many loans of each
// lender to each borrower are open. The numbers are small ones, as many scenes
// are kept at once.
type scene struct {
	where [api.MaxSheetSheets]int8
	open  [api.MaxSheetHouses][api.MaxSheetHouses]int8
}

// tally is what is counted at the end of a day, of a house, or of it and another one.
type tally struct {
	count             func(scene, tally) int
	house, other, day int
}

// start returns the scene before the first entry.
func (r Register) start() scene {
	var s scene
	for sheet := range s.where {
		s.where[sheet] = nowhere
	}
	for sheet, house := range r.Start {
		s.where[sheet] = int8(house)
	}
	return s
}

// house returns the house in which the sheet is.
func (s scene) house(sheet int) int { return int(s.where[sheet]) }

// lets reports whether the entry can happen now.
func (s scene) lets(e Entry) bool {
	return s.house(e.Sheet) == e.From && (e.Kind != Return || s.open[e.To][e.From] > 0)
}

// after returns the scene after the entry.
func (s scene) after(e Entry) scene {
	s.where[e.Sheet] = int8(e.To)
	switch e.Kind {
	case Loan:
		s.open[e.From][e.To]++
	case Return:
		s.open[e.To][e.From]--
	}
	return s
}

// sheets counts the sheets in the house.
func (s scene) sheets(t tally) int {
	many := 0
	for sheet := range s.where {
		if s.house(sheet) == t.house {
			many++
		}
	}
	return many
}

// loans counts the open loans of the house to the other one.
func (s scene) loans(t tally) int { return int(s.open[t.house][t.other]) }

// isIn reports whether the sight is right, if this is the end of its day.
func (g Sight) isIn(s scene) bool { return s.house(g.Sheet) == g.House }

// evenings returns the scenes at the ends of all days, if the entries happen on
// these days, and whether they can.
func (r Register) evenings(truth []int) ([]scene, bool) {
	var list []scene
	now := r.start()
	for day := range api.MaxSheetDay + 1 {
		for i, e := range r.Entries {
			if truth[i] != day {
				continue
			}
			if !now.lets(e) {
				return nil, false
			}
			now = now.after(e)
		}
		list = append(list, now)
	}
	return list, true
}
