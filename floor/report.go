package floor

import (
	"strconv"
	"strings"

	"contango/api"
	"contango/coupon"
)

// report returns what follows from the state, as text.
func (b *book) report() string {
	var text strings.Builder
	add := func(word string, parts ...string) {
		text.WriteString(word)
		for _, part := range parts {
			text.WriteString(" " + part)
		}
		text.WriteString("\n")
	}
	add("pairs", strconv.Itoa(b.pairs()))
	for _, houses := range b.holders(api.MaxSheetDay) {
		add("sheet", spell(houses, strconv.Itoa)...)
	}
	for k := range b.Company.Dividends {
		add("right", spell(b.rights(k), spellRange)...)
	}
	return text.String()
}

// spell returns the text of each element of the list.
func spell[T any](list []T, text func(T) string) []string {
	var texts []string
	for _, x := range list {
		texts = append(texts, text(x))
	}
	return texts
}

// spellRange returns the text of the range.
func spellRange(r coupon.Range) string { return strconv.Itoa(r.Lo) + ".." + strconv.Itoa(r.Hi) }
