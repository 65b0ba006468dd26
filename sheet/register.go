package sheet

import (
	"contango/api"
	"contango/lists"
)

// has reports whether the number is in the range.
func (r Range) has(n int) bool { return n >= r.Lo && n <= r.Hi }

// isWithin reports whether the range is one, with both ends in the limits.
func (r Range) isWithin(limits Range) bool {
	return r.Lo <= r.Hi && limits.has(r.Lo) && limits.has(r.Hi)
}

// days returns all days.
func days() Range { return Range{Lo: 0, Hi: api.MaxSheetDay} }

// hasDay reports whether there is such a day.
func hasDay(day int) bool { return days().has(day) }

// hasHouse reports whether there is such a house.
func (r Register) hasHouse(house int) bool { return house >= 0 && house < r.Houses }

// hasSheet reports whether there is such a sheet.
func (r Register) hasSheet(sheet int) bool { return sheet >= 0 && sheet < len(r.Start) }

// isFew reports whether the register has no more of anything than there may be.
func (r Register) isFew() bool {
	isFew := r.Houses <= api.MaxSheetHouses && len(r.Start) <= api.MaxSheetSheets
	return isFew && len(r.Entries) <= api.MaxSheetEntries && len(r.Sights) <= api.MaxSheetSights
}

// isValid reports whether the register is valid, but for how many it has of
// anything.
func (r Register) isValid() bool {
	isStart := r.Houses > 0 && len(r.Start) > 0 && lists.All(r.Start, r.hasHouse)
	return isStart && lists.All(r.Entries, r.validEntry) && lists.All(r.Sights, r.validSight)
}

// validEntry reports whether the entry is valid.
func (r Register) validEntry(e Entry) bool {
	kinds := Range{Lo: Pass, Hi: Return}
	isMove := r.hasHouse(e.From) && r.hasHouse(e.To) && e.From != e.To
	return kinds.has(e.Kind) && r.hasSheet(e.Sheet) && isMove && e.Day.isWithin(days())
}

// validSight reports whether the sight is valid.
func (r Register) validSight(s Sight) bool {
	return r.hasSheet(s.Sheet) && r.hasHouse(s.House) && hasDay(s.Day)
}

// canBeOn reports whether the entry can happen on this day, as far as its own
// days say.
func (e Entry) canBeOn(day int) bool { return e.Day.has(day) }

// upTo returns the register without sights, and without the entries after this one.
func (r Register) upTo(entry int) Register {
	return Register{Houses: r.Houses, Start: r.Start, Entries: r.Entries[:entry+1]}
}

// without returns the register without the entries and the sights of these indexes.
func (r Register) without(left []int) Register {
	return Register{
		Houses:  r.Houses,
		Start:   r.Start,
		Entries: lists.Others(r.Entries, 0, left),
		Sights:  lists.Others(r.Sights, len(r.Entries), left),
	}
}
