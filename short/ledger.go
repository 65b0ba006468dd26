package short

import (
	"slices"

	"contango/api"
	"contango/lists"
)

// isNumber reports whether a house can have so many sheets.
func isNumber(n int) bool { return n >= 0 && n <= api.MaxSheetSheets }

// hasHouse reports whether there is such a house.
func (l Ledger) hasHouse(house int) bool { return house >= 0 && house < l.Register.Houses }

// isValid reports whether the ledger is valid, if its register is, but for how
// many dues it has.
func (l Ledger) isValid() bool {
	isSightless := len(l.Register.Sights) == 0
	isDay := l.Day >= 0 && l.Day <= api.MaxSheetDay
	return isSightless && isDay && len(l.Lends) == l.Register.Houses && lists.All(l.Dues, l.validDue)
}

// validDue reports whether the due is valid.
func (l Ledger) validDue(d Due) bool {
	isOwed := l.hasHouse(d.From) && l.hasHouse(d.To) && d.From != d.To
	return isOwed && d.Number >= 1 && d.Number <= api.MaxShortNumber
}

// isHand reports whether the list is a hand.
func (l Ledger) isHand(list []int) bool {
	return len(list) == l.Register.Houses && lists.All(list, isNumber)
}

// allows reports whether so many sheets can be delivered of the due.
func (d Due) allows(n int) bool { return n >= 0 && n <= d.Number }

// areDeliveries reports whether the list has deliveries.
func (l Ledger) areDeliveries(list []int) bool { return slices.EqualFunc(l.Dues, list, Due.allows) }

// lending returns the ledger in which these houses lend, too.
func (l Ledger) lending(houses []int) Ledger {
	l.Lends = slices.Clone(l.Lends)
	for _, house := range houses {
		l.Lends[house] = true
	}
	return l
}
