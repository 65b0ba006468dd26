package tape

import (
	"slices"

	"contango/lists"
)

// minutes returns the bounds of the minutes of all sales, and whether there are
// right minutes. As no minute is less than the one before it, each is held from
// below by the sales before it, and from above by those after it; between these
// bounds each minute is right.
func (r record) minutes() ([]Range, bool) {
	var lows, highs []int
	for _, p := range r.prints {
		lows = append(lows, p.Minute-p.Late.Hi)
		highs = append(highs, p.Minute-p.Late.Lo)
	}
	var list []Range
	for i := range r.prints {
		bounds := Range{Lo: slices.Max(lows[:i+1]), Hi: lists.Least(highs[i], highs[i+1:]...)}
		if bounds.Lo > bounds.Hi {
			return nil, false
		}
		list = append(list, bounds)
	}
	return list, true
}
