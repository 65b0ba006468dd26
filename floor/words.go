package floor

import (
	"slices"
	"strconv"
	"strings"

	"contango/api"
	"contango/hand"
	"contango/lists"
)

// limit is the most bytes that a line can have.
type limit int

// allows reports whether the line is short enough.
func (m limit) allows(line string) bool { return len(line) <= int(m) }

// areShort reports whether all lines are short enough.
func areShort(lines []string) bool { return lists.All(lines, limit(api.MaxFloorLine).allows) }

// kind is what a part of a line is.
type kind int

// The kinds of parts.
const (
	number kind = iota
	shape
)

// greatest is the greatest number of a line, which has the most digits.
const greatest = 9999

// parts are those of a line: its numbers, none of which is below 0, and its
// shapes, each in their order.
type parts struct {
	numbers []int
	shapes  []string
}

// word is what a line can begin with: which parts come after it, and what it does.
type word struct {
	kinds []kind
	do    func(*book, parts)
}

// words returns all words.
func words() map[string]word {
	return map[string]word{
		"clerk":    {do: (*book).addClerk},
		"pair":     {kinds: numbers(3), do: (*book).addPair},
		"errors":   {kinds: numbers(1), do: (*book).setErrors},
		"late":     {kinds: numbers(1), do: (*book).setLate},
		"sign":     {kinds: numbers(1), do: (*book).addSign},
		"slip":     {kinds: slices.Concat(numbers(4), []kind{shape, shape}, numbers(2)), do: (*book).addSlip},
		"void":     {kinds: numbers(1), do: (*book).voidSlip},
		"sheet":    {kinds: numbers(1), do: (*book).addSheet},
		"pass":     {kinds: numbers(5), do: (*book).pass},
		"loan":     {kinds: numbers(5), do: (*book).lend},
		"return":   {kinds: numbers(5), do: (*book).giveBack},
		"saw":      {kinds: numbers(3), do: (*book).addSight},
		"drop":     {kinds: numbers(1), do: (*book).dropEntry},
		"forget":   {kinds: numbers(1), do: (*book).forgetSight},
		"held":     {kinds: numbers(2), do: (*book).setHeld},
		"trade":    {kinds: numbers(7), do: (*book).addTrade},
		"cancel":   {kinds: numbers(1), do: (*book).cancelTrade},
		"dividend": {kinds: numbers(3), do: (*book).addDividend},
		"split":    {kinds: numbers(3), do: (*book).addSplit},
		"closed":   {kinds: numbers(2), do: (*book).closeBooks},
	}
}

// numbers returns the kinds of so many numbers.
func numbers(many int) []kind { return slices.Repeat([]kind{number}, many) }

// do executes the line, or refuses it.
func (b *book) do(line string) {
	fields := strings.Split(line, " ")
	w, ok := b.words[fields[0]]
	refuse(api.ErrForm, !ok, len(fields) != len(w.kinds)+1)
	var p parts
	for i, text := range fields[1:] {
		p.add(w.kinds[i], text)
	}
	w.do(b, p)
}

// add adds a part of this kind.
func (p *parts) add(k kind, text string) {
	switch k {
	case number:
		n, ok := parseNumber(text)
		refuse(api.ErrForm, !ok)
		p.numbers = append(p.numbers, n)
	case shape:
		refuse(api.ErrForm, !isShape(text))
		// What is recorded shares no memory with the line.
		p.shapes = append(p.shapes, strings.Clone(text))
	}
}

// parseNumber returns the number that the text spells, and whether it spells one.
func parseNumber(text string) (int, bool) {
	n, err := strconv.Atoi(text)
	return n, err == nil && n >= 0 && n <= greatest && strconv.Itoa(n) == text
}

// isShape reports whether the text has a shape. Of one that has none the package
// hand says so, whatever a clerk was to read as it.
func isShape(text string) bool {
	_, e := hand.Misread(hand.Hand{Clerks: [][]hand.Pair{nil}}, 0, "0", text)
	return e != api.ErrForm
}
