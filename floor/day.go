package floor

import (
	"slices"

	"contango/api"
	"contango/hand"
	"contango/lists"
	"contango/slip"
)

// hasClerk reports whether there is such a clerk.
func (b *book) hasClerk(clerk int) bool { return clerk < len(b.Day.Hand.Clerks) }

// hasSign reports whether there is such a sign.
func (b *book) hasSign(sign int) bool { return sign < len(b.Day.Signs) }

// hasSlip reports whether there is such a slip.
func (b *book) hasSlip(k int) bool { return k < len(b.Day.Slips) }

// addClerk adds a clerk without pairs.
func (b *book) addClerk(parts) {
	refuse(api.ErrLimit, len(b.Day.Hand.Clerks) == api.MaxHandClerks)
	b.Day.Hand.Clerks = append(b.Day.Hand.Clerks, nil)
}

// addPair adds a pair of a clerk.
func (b *book) addPair(p parts) {
	clerk, x := p.numbers[0], hand.Pair{Written: p.numbers[1], Read: p.numbers[2]}
	refuse(api.ErrNone, !b.hasClerk(clerk))
	refuse(api.ErrRange, !isPair(x))
	pairs := b.Day.Hand.Clerks[clerk]
	refuse(api.ErrTwice, slices.Contains(pairs, x))
	refuse(api.ErrLimit, len(pairs) == api.MaxHandPairs)
	b.Day.Hand.Clerks[clerk] = append(pairs, x)
}

// isPair reports whether a clerk can have the pair.
func isPair(x hand.Pair) bool {
	return hand.CheckHand(hand.Hand{Clerks: [][]hand.Pair{{x}}}) == api.OK
}

// setErrors sets how many figures a clerk can misread.
func (b *book) setErrors(p parts) {
	many := p.numbers[0]
	refuse(api.ErrRange, many > api.MaxHandErrors)
	b.Day.Hand.Errors = many
}

// setLate sets by how much the minutes of two slips can differ.
func (b *book) setLate(p parts) {
	late := p.numbers[0]
	refuse(api.ErrRange, late > api.MaxSlipLate)
	b.Day.Late = late
}

// addSign adds a sign, which has a bit for each house that it can mean.
func (b *book) addSign(p parts) {
	bits := p.numbers[0]
	refuse(api.ErrRange, bits >= 1<<api.MaxFloorHouses)
	refuse(api.ErrLimit, len(b.Day.Signs) == api.MaxSlipSigns)
	var sign []int
	for house := range api.MaxFloorHouses {
		if bits>>house&1 == 1 {
			sign = append(sign, house)
		}
	}
	b.Day.Signs = append(b.Day.Signs, sign)
}

// addSlip adds a slip.
func (b *book) addSlip(p parts) {
	house, bought, sign, clerk := p.numbers[0], p.numbers[1], p.numbers[2], p.numbers[3]
	minute := slip.Range{Lo: p.numbers[4], Hi: p.numbers[5]}
	refuse(api.ErrNone, !isHouse(house), !b.hasSign(sign), !b.hasClerk(clerk))
	refuse(api.ErrRange, bought > 1, minute.Lo > minute.Hi, minute.Hi > api.MaxSlipMinute)
	refuse(api.ErrLimit, len(b.Day.Slips) == api.MaxSlipSlips)
	b.Day.Slips = append(b.Day.Slips, slip.Slip{
		House:  house,
		Bought: bought == 1,
		Sign:   sign,
		Price:  readBy(clerk, p.shapes[0]),
		Number: readBy(clerk, p.shapes[1]),
		Minute: minute,
	})
}

// readBy returns the note of the one reading of this clerk.
func readBy(clerk int, text string) hand.Note {
	return hand.Note{Readings: []hand.Reading{{Clerk: clerk, Text: text}}, Check: hand.None}
}

// voidSlip removes a slip.
func (b *book) voidSlip(p parts) {
	k := p.numbers[0]
	refuse(api.ErrNone, !b.hasSlip(k))
	b.Day.Slips = lists.Others(b.Day.Slips, 0, []int{k})
}

// pairs returns how many pairs a best matching has. A day without clerks has no
// matching, but no slips either.
func (b *book) pairs() int {
	partners, _ := slip.Match(b.Day)
	many := 0
	for k, partner := range partners {
		if partner > k {
			many++
		}
	}
	return many
}

// surePairs returns the sure pairs of the slips, of which there are some.
func (b *book) surePairs() [][]int {
	sure, _ := slip.Sure(b.Day)
	return sure
}
