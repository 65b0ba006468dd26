package floor

import (
	"contango/api"
	"contango/lists"
	"contango/sheet"
)

// hasSheet reports whether there is such a sheet.
func (b *book) hasSheet(k int) bool { return k < len(b.Register.Start) }

// addSheet adds a sheet, which is in a house at first.
func (b *book) addSheet(p parts) {
	house := p.numbers[0]
	refuse(api.ErrNone, !isHouse(house))
	refuse(api.ErrLimit, len(b.Register.Start) == api.MaxSheetSheets)
	b.Register.Start = append(b.Register.Start, house)
}

// pass adds an entry of a sheet that is passed on.
func (b *book) pass(p parts) { b.addEntry(sheet.Pass, p) }

// lend adds an entry of a sheet that is lent.
func (b *book) lend(p parts) { b.addEntry(sheet.Loan, p) }

// giveBack adds an entry of a sheet that is returned.
func (b *book) giveBack(p parts) { b.addEntry(sheet.Return, p) }

// addEntry adds an entry of this kind of the package sheet.
func (b *book) addEntry(kind int, p parts) {
	x := sheet.Entry{Kind: kind, Sheet: p.numbers[0], From: p.numbers[1], To: p.numbers[2]}
	x.Day = sheet.Range{Lo: p.numbers[3], Hi: p.numbers[4]}
	refuse(api.ErrNone, !b.hasSheet(x.Sheet), !isHouse(x.From), !isHouse(x.To))
	refuse(api.ErrRange, x.From == x.To, x.Day.Lo > x.Day.Hi, x.Day.Hi > api.MaxSheetDay)
	refuse(api.ErrLimit, len(b.Register.Entries) == api.MaxSheetEntries)
	r := b.Register
	r.Entries = append(r.Entries, x)
	b.keepRegister(r)
}

// addSight adds a sight.
func (b *book) addSight(p parts) {
	x := sheet.Sight{Sheet: p.numbers[0], House: p.numbers[1], Day: p.numbers[2]}
	refuse(api.ErrNone, !b.hasSheet(x.Sheet), !isHouse(x.House))
	refuse(api.ErrRange, x.Day > api.MaxSheetDay)
	refuse(api.ErrLimit, len(b.Register.Sights) == api.MaxSheetSights)
	r := b.Register
	r.Sights = append(r.Sights, x)
	b.keepRegister(r)
}

// dropEntry removes an entry.
func (b *book) dropEntry(p parts) {
	k := p.numbers[0]
	refuse(api.ErrNone, k >= len(b.Register.Entries))
	r := b.Register
	r.Entries = lists.Others(r.Entries, 0, []int{k})
	b.keepRegister(r)
}

// forgetSight removes a sight. The truths of the register still are some.
func (b *book) forgetSight(p parts) {
	k := p.numbers[0]
	refuse(api.ErrNone, k >= len(b.Register.Sights))
	b.Register.Sights = lists.Others(b.Register.Sights, 0, []int{k})
}

// keepRegister changes the register to this one, which has a sheet, if it has a
// truth.
func (b *book) keepRegister(r sheet.Register) {
	_, e := sheet.Explain(r)
	refuse(api.ErrFail, e != api.OK)
	b.Register = r
}

// holders returns for each sheet the houses in which it can be at the end of the day.
func (b *book) holders(day int) [][]int {
	var list [][]int
	for k := range b.Register.Start {
		houses, _ := sheet.Holders(b.Register, k, day)
		list = append(list, houses)
	}
	return list
}
