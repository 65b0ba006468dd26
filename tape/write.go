package tape

import (
	"cmp"
	"strconv"
	"strings"
)

// byMinute compares sales by their minutes.
func byMinute(a, b Sale) int { return cmp.Compare(a.Minute, b.Minute) }

// shortest returns the shortest tape that says the sales. What changes must be
// said; a full price, a rush, or how late the tape is only makes it longer. Of a
// minute and a name in either order, the minute comes first, as its sign is
// before all letters.
func (b Board) shortest(sales []Sale) string {
	last := Sale{Stock: none}
	var texts []string
	for _, s := range sales {
		if s.Minute != last.Minute {
			texts = append(texts, at+strconv.Itoa(s.Minute))
		}
		if s.Stock != last.Stock {
			texts = append(texts, b.Stocks[s.Stock].Name)
		}
		if s.Number != 1 {
			texts = append(texts, strconv.Itoa(s.Number)+hundreds)
		}
		texts = append(texts, spellFigures(s.Price))
		last = s
	}
	return strings.Join(texts, blank)
}
