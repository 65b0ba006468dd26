package tape

import (
	"iter"
	"strconv"
	"strings"

	"contango/api"
	"contango/lists"
)

// The signs of tokens.
const (
	blank    = " "
	hundreds = "s"
	point    = "."
	dollar   = "$"
	at       = "@"
	lateSign = "L"
	hyphen   = "-"
	rushSign = "!"
	calmSign = "?"
)

const (
	eighths    = 8  // of a whole
	turn       = 80 // prices that differ by this have the same last figures
	nameLength = 3  // of a stock, at most
	maxDigits  = 3  // of a number
)

// kind is a kind of tokens.
type kind int

// The kinds of tokens.
const (
	nameToken kind = iota
	numberToken
	priceToken
	fullToken
	minuteToken
	lateToken
	rushToken
	calmToken
	kinds int = iota
)

// token is a token of a tape, with the number or the range that it says.
type token struct {
	kind kind
	text string
	says Range
}

// rule is what there is to know of a kind of tokens: the form, by which it says
// something, and what happens then.
type rule struct {
	form func(text string) (Range, bool)
	act  func(*work, token) api.Errno
}

// rules returns the rules of all kinds. No token has the forms of two kinds.
func rules() [kinds]rule {
	return [kinds]rule{
		nameToken:   {form: nameForm, act: (*work).name},
		numberToken: {form: numberForm, act: (*work).count},
		priceToken:  {form: priceForm, act: (*work).sell},
		fullToken:   {form: fullForm, act: (*work).sell},
		minuteToken: {form: minuteForm, act: (*work).wait},
		lateToken:   {form: lateForm, act: (*work).delay},
		rushToken:   {form: rushForm, act: (*work).hurry},
		calmToken:   {form: calmForm, act: (*work).calm},
	}
}

// tokens returns the tokens of the tape, each with whether it has a form.
func tokens(tape string) iter.Seq2[token, bool] {
	return func(yield func(token, bool) bool) {
		if tape == "" {
			return
		}
		for _, text := range strings.Split(tape, blank) {
			t, ok := parse(text)
			if !yield(t, ok) {
				return
			}
		}
	}
}

// parse returns the token, and whether it has a form.
func parse(text string) (token, bool) {
	for k, r := range rules() {
		if says, ok := r.form(text); ok {
			return token{kind: kind(k), text: text, says: says}, true
		}
	}
	return token{}, false
}

func nameForm(text string) (Range, bool) { return Range{}, isName(text) }

func numberForm(text string) (Range, bool) {
	s, ok := strings.CutSuffix(text, hundreds)
	n, isNumber := digits(s)
	return only(n), ok && isNumber && allNumbers().has(n)
}

func priceForm(text string) (Range, bool) {
	n, ok := fraction(text)
	return only(n), ok && n < turn
}

func fullForm(text string) (Range, bool) {
	s, ok := strings.CutPrefix(text, dollar)
	n, isPrice := fraction(s)
	return only(n), ok && isPrice && allPrices().has(n)
}

func minuteForm(text string) (Range, bool) {
	s, ok := strings.CutPrefix(text, at)
	n, isNumber := digits(s)
	return only(n), ok && isNumber && allMinutes().has(n)
}

func lateForm(text string) (Range, bool) {
	s, ok := strings.CutPrefix(text, lateSign)
	first, second, _ := strings.Cut(s, hyphen)
	low, isLow := digits(first)
	high, isHigh := digits(second)
	r := Range{Lo: low, Hi: high}
	return r, ok && isLow && isHigh && r.isWithin(Range{Lo: 0, Hi: api.MaxTapeLate})
}

func rushForm(text string) (Range, bool) { return Range{}, text == rushSign }

func calmForm(text string) (Range, bool) { return Range{}, text == calmSign }

// isName reports whether the string can be the name of a stock.
func isName(s string) bool {
	return len(s) >= 1 && len(s) <= nameLength && lists.All([]byte(s), isLetter)
}

// isLetter reports whether the byte is a letter from A to Z.
func isLetter(b byte) bool { return b >= 'A' && b <= 'Z' }

// isDigit reports whether the byte is a digit.
func isDigit(b byte) bool { return b >= '0' && b <= '9' }

// digits returns the number that the digits are, and whether they are one.
func digits(s string) (int, bool) {
	if len(s) == 0 || len(s) > maxDigits || len(s) > 1 && s[0] == '0' || !lists.All([]byte(s), isDigit) {
		return 0, false
	}
	n := 0
	for i := range len(s) {
		n = 10*n + int(s[i]-'0')
	}
	return n, true
}

// fraction returns the eighths that digits, a point and an eighth are, and
// whether the string is this.
func fraction(s string) (int, bool) {
	whole, part, _ := strings.Cut(s, point)
	n, isWhole := digits(whole)
	e, isPart := digits(part)
	return eighths*n + e, isWhole && isPart && e < eighths
}

// spellFigures returns the token of the last figures of a price.
func spellFigures(price int) string {
	figures := price % turn
	return strconv.Itoa(figures/eighths) + point + strconv.Itoa(figures%eighths)
}
