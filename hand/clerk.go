package hand

import (
	"contango/api"
	"contango/lists"
)

// way is one of the two ways of going over a pair: from what was written to
// what is read, or back.
type way struct {
	over func(Pair) (from, to int)
}

// forth goes from what was written to what is read.
func (p Pair) forth() (from, to int) { return p.Written, p.Read }

// back goes from what is read to what was written.
func (p Pair) back() (from, to int) { return p.Read, p.Written }

// pairCount tells how often a clerk has each pair.
type pairCount map[Pair]int

// countPairs counts the pairs of a clerk.
func countPairs(clerk []Pair) pairCount {
	count := pairCount{}
	for _, p := range clerk {
		count[p]++
	}
	return count
}

// valid reports whether the pair is of two different figures, and the clerk has it once.
func (c pairCount) valid(p Pair) bool {
	signs := Range{Lo: 0, Hi: 9}
	return signs.has(p.Written) && signs.has(p.Read) && p.Written != p.Read && c[p] == 1
}

// validPairs reports whether all pairs of the clerk are valid.
func validPairs(clerk []Pair) bool { return lists.All(clerk, countPairs(clerk).valid) }

// fewPairs reports whether the clerk has no more pairs than there may be.
func fewPairs(clerk []Pair) bool { return len(clerk) <= api.MaxHandPairs }

// hasClerk reports whether there is such a clerk.
func (h Hand) hasClerk(clerk int) bool { return clerk >= 0 && clerk < len(h.Clerks) }

// has reports whether the number is in the range.
func (r Range) has(n int) bool { return n >= r.Lo && n <= r.Hi }
