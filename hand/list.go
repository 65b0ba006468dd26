package hand

import (
	"iter"
	"slices"
)

// all reports whether each element of the list is as asked.
func all[T any](list []T, asked func(T) bool) bool {
	return !slices.ContainsFunc(list, func(x T) bool { return !asked(x) })
}

// least returns the minimum of the numbers.
func least(first int, more ...int) int {
	for _, n := range more {
		first = min(first, n)
	}
	return first
}

// choices returns all increasing lists of so many indexes below the end, in
// lexicographic order.
func choices(end, many int) iter.Seq[[]int] {
	return func(yield func([]int) bool) {
		list := make([]int, 0, many)
		var choose func(from int) bool
		choose = func(from int) bool {
			if len(list) == many {
				return yield(slices.Clone(list))
			}
			for i := from; i < end; i++ {
				list = append(list, i)
				if !choose(i + 1) {
					return false
				}
				list = list[:len(list)-1]
			}
			return true
		}
		choose(0)
	}
}
