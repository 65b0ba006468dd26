package ring

import (
	"slices"

	"contango/api"
	"contango/lists"
)

// isPrice reports whether the number can be a price.
func isPrice(n int) bool { return n >= 1 && n <= api.MaxRingPrice }

// isHeight reports whether the number can be a height.
func isHeight(n int) bool { return n >= -api.MaxRingHeight && n <= api.MaxRingHeight }

// isNone reports whether the number is 0.
func isNone(n int) bool { return n == 0 }

// sum returns the sum of the numbers.
func sum(list []int) int {
	sum := 0
	for _, n := range list {
		sum += n
	}
	return sum
}

// hasHouse reports whether there is such a house.
func (b Book) hasHouse(house int) bool { return house >= 0 && house < b.Houses }

// hasContract reports whether there is such a contract.
func (b Book) hasContract(contract int) bool { return contract >= 0 && contract < len(b.Contracts) }

// isFew reports whether the book has no more of anything than there may be.
func (b Book) isFew() bool {
	return b.Houses <= api.MaxRingHouses && len(b.Contracts) <= api.MaxRingContracts
}

// isValid reports whether the book is valid, but for how many it has of anything.
func (b Book) isValid() bool { return b.Houses > 0 && lists.All(b.Contracts, b.validContract) }

// validContract reports whether the contract is valid.
func (b Book) validContract(c Contract) bool {
	isSale := b.hasHouse(c.From) && b.hasHouse(c.To) && c.From != c.To
	return isSale && c.Number >= 1 && c.Number <= api.MaxRingNumber && isPrice(c.Price)
}

// seller returns the house that sells.
func (c Contract) seller() int { return c.From }

// buyer returns the house that buys.
func (c Contract) buyer() int { return c.To }

// allows reports whether so many shares can be a part of the contract.
func (c Contract) allows(n int) bool { return n >= 0 && n <= c.Number }

// side is one side of a contract: its house, and the sign that it gives to what
// goes from the seller to the buyer.
type side struct {
	house func(Contract) int
	sign  int
}

// sides returns both sides of a contract.
func sides() [2]side {
	return [2]side{{house: Contract.seller, sign: -1}, {house: Contract.buyer, sign: 1}}
}

// balances returns for each house what it gets less what it gives, if for each
// contract so much goes from the seller to the buyer.
func (b Book) balances(amounts []int) []int {
	list := make([]int, b.Houses)
	for i, c := range b.Contracts {
		for _, s := range sides() {
			list[s.house(c)] += s.sign * amounts[i]
		}
	}
	return list
}

// differences returns the differences of all houses.
func (b Book) differences() []int {
	numbers := make([]int, len(b.Contracts))
	for i, c := range b.Contracts {
		numbers[i] = c.Number
	}
	return b.balances(numbers)
}

// payments returns for each contract what its seller pays to its buyer at the
// settlement price.
func (b Book) payments(price int) []int {
	list := make([]int, len(b.Contracts))
	for i, c := range b.Contracts {
		list[i] = c.Number * (price - c.Price)
	}
	return list
}

// losses returns what each house loses if the house fails.
func (b Book) losses(house, price int) []int {
	payments := b.payments(price)
	for i, c := range b.Contracts {
		if c.seller() != house && c.buyer() != house {
			payments[i] = 0
		}
	}
	list := b.balances(payments)
	list[house] = 0
	for other, money := range list {
		list[other] = lists.Greatest(0, money)
	}
	return list
}

// isPart reports whether the list has for each contract a part of its number.
func (b Book) isPart(list []int) bool {
	return slices.EqualFunc(b.Contracts, list, Contract.allows)
}

// isSettingOff reports whether the list is a setting off.
func (b Book) isSettingOff(off []int) bool {
	return b.isPart(off) && lists.All(b.balances(off), isNone)
}

// areHeights reports whether the list has a height for each house.
func (b Book) areHeights(list []int) bool {
	return len(list) == b.Houses && lists.All(list, isHeight)
}

// proved returns the total that the heights prove.
func (b Book) proved(heights []int) int {
	total := 0
	for _, c := range b.Contracts {
		total += c.Number * lists.Greatest(0, 1+heights[c.From]-heights[c.To])
	}
	return total
}
