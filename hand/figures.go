package hand

import (
	"strings"

	"contango/api"
	"contango/lists"
)

const (
	slash   = "/"
	eighths = 8 // of a whole
	modulus = 9 // of check figures

	lastPlace = api.MaxHandDigits // of the figure after the slash
	blank     = -1                // a place without a figure
)

// figures has a place for each figure that a shape can have: those before the
// slash from the left, and at the end the one after it. Blanks keep their
// places, so that two shapes are the same if their blanks are.
type figures [api.MaxHandDigits + 1]int

// parse returns the figures of the string, and whether it has a shape.
func parse(s string) (figures, bool) {
	whole, part, cut := strings.Cut(s, slash)
	if len(whole) == 0 || len(whole) > api.MaxHandDigits || cut && len(part) != 1 {
		return figures{}, false
	}
	if !lists.All([]byte(whole+part), isSign) {
		return figures{}, false
	}
	var f figures
	for place := range f {
		f[place] = blank
	}
	for i := range len(whole) {
		f[i] = figure(whole[i])
	}
	if cut {
		f[lastPlace] = figure(part[0])
	}
	return f, true
}

// parseText returns the figures of the string, and whether it is a text.
func parseText(s string) (figures, bool) {
	f, ok := parse(s)
	return f, ok && f.isText()
}

// isSign reports whether the byte is one of the signs 0 to 9.
func isSign(b byte) bool { return b >= '0' && b <= '9' }

// figure returns the figure of a sign.
func figure(b byte) int { return int(b) - '0' }

// isText reports whether figures that have a shape are those of a text.
func (f figures) isText() bool {
	if f[0] == 0 && f[1] != blank {
		return false
	}
	return f[lastPlace] != 0 && f[lastPlace] < eighths
}

// value returns the value of a text.
func (f figures) value() int {
	number := 0
	for place := range lastPlace {
		if f[place] != blank {
			number = 10*number + f[place]
		}
	}
	if f[lastPlace] == blank {
		return eighths * number
	}
	return eighths*number + f[lastPlace]
}

// spell returns a text as a string. It needs its value only, as each value has
// just one text.
func (f figures) spell() string {
	s, _ := Spell(f.value())
	return s
}

// check returns the check figure.
func (f figures) check() int {
	sum := 0
	for _, n := range f {
		if n != blank {
			sum += n
		}
	}
	return sum % modulus
}
