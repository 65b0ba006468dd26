package margin

import "contango/lists"

// areAmounts reports whether the money is in amounts, some of it above 0.
func areAmounts(money []int) bool { return lists.All(money, isMoney) && total(money) > 0 }

// total returns the sum of the numbers.
func total(list []int) int {
	sum := 0
	for _, n := range list {
		sum += n
	}
	return sum
}

// parts returns the parts of the sum that fall to the amounts.
func parts(money []int, sum int) []int {
	all := total(money)
	list, remainders := make([]int, len(money)), make([]int, len(money))
	for i, amount := range money {
		list[i] = amount * sum / all
		remainders[i] = amount * sum % all
	}
	// All remainders together are the pence that are left, times all: there are
	// more remainders above 0 than such pence.
	for range sum - total(list) {
		next := greatest(remainders)
		list[next]++
		remainders[next] = 0
	}
	return list
}

// greatest returns the index of the greatest number, of equal ones the first one.
func greatest(list []int) int {
	found := 0
search:
	for i, n := range list {
		for _, other := range list {
			if other > n {
				continue search
			}
		}
		found = i
		break search
	}
	return found
}
