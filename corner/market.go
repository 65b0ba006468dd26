package corner

import (
	"slices"

	"contango/api"
	"contango/lists"
)

// has reports whether the number is in the range.
func (r Range) has(n int) bool { return n >= r.Lo && n <= r.Hi }

// isOfShares reports whether it is a range of shares.
func (r Range) isOfShares() bool { return r.Lo >= 0 && r.Lo <= r.Hi && r.Hi <= api.MaxCornerShares }

// isFew reports whether the market has no more of anything than there may be.
func (m Market) isFew() bool {
	return len(m.Houses) <= api.MaxCornerHouses && len(m.Contracts) <= api.MaxCornerContracts
}

// isValid reports whether the market is valid, but for how many it has of anything.
func (m Market) isValid() bool {
	isOpen := isNumber(m.Exist) && len(m.Houses) > 0
	return isOpen && lists.All(m.Houses, House.isValid) && lists.All(m.Contracts, m.validContract)
}

// isNumber reports whether so many shares can exist, or be owed.
func isNumber(shares int) bool { return shares >= 1 && shares <= api.MaxCornerShares }

// isValid reports whether the house is valid.
func (h House) isValid() bool {
	return h.Held.isOfShares() && h.Ask >= 0 && h.Ask <= api.MaxCornerAsk
}

// validContract reports whether the contract is valid.
func (m Market) validContract(c Contract) bool {
	return m.hasHouses(c.Short, c.Long) && c.Short != c.Long && isNumber(c.Shares)
}

// hasHouses reports whether there are all these houses.
func (m Market) hasHouses(houses ...int) bool { return lists.All(houses, m.hasHouse) }

// hasHouse reports whether there is such a house.
func (m Market) hasHouse(house int) bool { return house >= 0 && house < len(m.Houses) }

// wouldSell reports whether the house would sell.
func (m Market) wouldSell(house int) bool { return m.Houses[house].Sells }

// canHold reports whether the house can hold so many shares.
func (h House) canHold(shares int) bool { return h.Held.has(shares) }

// allows reports whether the list is a truth of the market.
func (m Market) allows(truth []int) bool {
	return slices.EqualFunc(m.Houses, truth, House.canHold) && total(truth) == m.Exist
}

// hasTruth reports whether the market has a truth.
func (m Market) hasTruth() bool { return m.held(0).has(m.Exist) }

// held returns the range of what this house, and those after it, hold together.
func (m Market) held(first int) Range {
	var sum Range
	for _, h := range m.Houses[first:] {
		sum.Lo += h.Held.Lo
		sum.Hi += h.Held.Hi
	}
	return sum
}

// changed returns the market with a change of these houses.
func (m Market) changed(change func(*House), houses []int) Market {
	m.Houses = slices.Clone(m.Houses)
	for _, house := range houses {
		change(&m.Houses[house])
	}
	return m
}

// shut returns the market in which none of these houses would sell.
func (m Market) shut(houses ...int) Market {
	return m.changed(func(h *House) { h.Sells = false }, houses)
}

// open returns the market in which each of these houses can hold any number.
func (m Market) open(houses ...int) Market {
	return m.changed(func(h *House) { h.Held = Range{Lo: 0, Hi: m.Exist} }, houses)
}

// total returns the sum of the numbers.
func total(list []int) int {
	sum := 0
	for _, n := range list {
		sum += n
	}
	return sum
}
