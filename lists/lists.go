// Package lists has what several layers ask of lists.
package lists

import (
	"iter"
	"slices"
)

// All reports whether each element of the list is as asked.
func All[T any](list []T, asked func(T) bool) bool {
	return !slices.ContainsFunc(list, func(x T) bool { return !asked(x) })
}

// Least returns the minimum of the numbers.
func Least(first int, more ...int) int {
	for _, n := range more {
		first = min(first, n)
	}
	return first
}

// Greatest returns the maximum of the numbers.
func Greatest(first int, more ...int) int {
	for _, n := range more {
		first = max(first, n)
	}
	return first
}

// Others returns the elements of the list whose indexes, counted from the first
// one on, are not left out.
func Others[T any](list []T, first int, left []int) []T {
	var kept []T
	for i, x := range list {
		if !slices.Contains(left, first+i) {
			kept = append(kept, x)
		}
	}
	return kept
}

// Smallest returns the shortest increasing list of at most so many indexes
// below the end that fits, of several the lexicographically first one, and
// whether there is one.
func Smallest(end, most int, fits func([]int) bool) ([]int, bool) {
	var set []int
	found := false
search:
	for many := range most + 1 {
		for list := range choices(end, many) {
			if fits(list) {
				set, found = list, true
				break search
			}
		}
	}
	return set, found
}

// choices returns all increasing lists of so many indexes below the end, in
// lexicographic order.
func choices(end, many int) iter.Seq[[]int] {
	return func(yield func([]int) bool) {
		list := make([]int, 0, many)
		var choose func(from int) bool
		choose = func(from int) bool {
			if len(list) == many {
				return yield(slices.Clone(list))
			}
			for i := from; i < end; i++ {
				list = append(list, i)
				if !choose(i + 1) {
					return false
				}
				list = list[:len(list)-1]
			}
			return true
		}
		choose(0)
	}
}
