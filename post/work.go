package post

import (
	"slices"

	"contango/api"
	"contango/lists"
)

// work is a post at work, with a course for each order in which its orders can
// come.
type work struct {
	Post
	courses []*course
}

// begin returns the post at work.
func (p Post) begin() *work {
	w := &work{Post: p}
	for truth := range p.truths() {
		w.courses = append(w.courses, p.run(truth))
	}
	return w
}

// boundsOf returns the bounds of the numbers.
func boundsOf(first int, more ...int) Range {
	return Range{Lo: lists.Least(first, more...), Hi: lists.Greatest(first, more...)}
}

// bounds returns for each order the bounds of the sum of what is asked of its
// sales.
func (w *work) bounds(asked func(Sale) int) []Range {
	var sums [api.MaxPostOrders][]int
	for _, c := range w.courses {
		for order, sum := range c.sums(asked) {
			sums[order] = append(sums[order], sum)
		}
	}
	list := make([]Range, len(w.Orders))
	for order := range list {
		list[order] = boundsOf(sums[order][0], sums[order][1:]...)
	}
	return list
}

// canExplain reports whether some truth explains the records.
func (w *work) canExplain(records []Sale) bool {
	return slices.ContainsFunc(w.courses, func(c *course) bool { return c.explains(records) })
}
