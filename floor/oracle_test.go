package floor_test

import (
	"fmt"
	"math/rand"
	"regexp"
	"slices"
	"strconv"
	"strings"

	"contango/api"
	"contango/coupon"
	"contango/floor"
	"contango/hand"
	"contango/sheet"
	"contango/slip"
)

// The oracle reads lines by regular expressions, and makes of a state and a line
// the next state, in memory of its own. It asks the packages sheet and coupon for
// truths by other functions than the program does.

// pick returns one of the elements.
func pick[T any](r *rand.Rand, list ...T) T { return list[r.Intn(len(list))] }

// between returns a number of the range.
func between(r *rand.Rand, low, high int) int { return low + r.Intn(high-low+1) }

// form is the expression of a line: N stands for a number, S for a shape.
func form(text string) *regexp.Regexp {
	text = strings.NewReplacer("N", "(0|[1-9][0-9]{0,3})", "S", "([0-9]{1,4}(?:/[0-9])?)").Replace(text)
	return regexp.MustCompile("^(" + text + ")$")
}

// forms are the expressions of all words.
func forms() map[string]*regexp.Regexp {
	all := map[string]*regexp.Regexp{}
	for _, text := range []string{
		"clerk", "pair N N N", "errors N", "late N", "sign N", "slip N N N N S S N N", "void N", "sheet N", "pass N N N N N",
		"loan N N N N N", "return N N N N N", "saw N N N", "drop N", "forget N", "held N N", "trade N N N N N N N", "cancel N",
		"dividend N N N", "split N N N", "closed N N",
	} {
		word, _, _ := strings.Cut(text, " ")
		all[word] = form(text)
	}
	return all
}

// oracle has the state after lines.
type oracle struct{ floor.State }

// allForms are those of forms.
var allForms = forms()

// wait returns the oracle before the first line.
func wait() *oracle { return &oracle{State: empty()} }

// less returns the list without the k-th element.
func less[T any](list []T, k int) []T { return slices.Concat(list[:k], list[k+1:]) }

// more returns the list with one more element.
func more[T any](list []T, x T) []T { return slices.Concat(list, []T{x}) }

// hasTruth reports whether register and company have truths.
func hasTruth(s floor.State) bool {
	c := s.Company
	c.Dividends = []coupon.Dividend{{}}
	_, _, _, e := coupon.Bounds(c, 0)
	if len(s.Register.Start) == 0 {
		return e == api.OK
	}
	_, f := sheet.Holders(s.Register, 0, 9)
	return e == api.OK && f == api.OK
}

// follow follows the line, and returns its error, or OK.
func (o *oracle) follow(line string) api.Errno {
	word, _, _ := strings.Cut(line, " ")
	f := allForms[word]
	if f == nil {
		return api.ErrForm
	}
	parts := f.FindStringSubmatch(line)
	if parts == nil {
		return api.ErrForm
	}
	var n []int
	for _, part := range parts[2:] {
		k, _ := strconv.Atoi(part)
		n = append(n, k)
	}
	s, e := o.State, api.OK
	switch word {
	case "clerk", "pair", "errors", "late", "sign", "slip", "void":
		e = followDay(&s.Day, word, n, parts[2:])
	case "sheet", "pass", "loan", "return", "saw", "drop", "forget":
		e = followRegister(&s.Register, word, n)
	default:
		e = followCompany(&s.Company, word, n)
	}
	if e == api.OK && !isOf(word, dayWords()) && !hasTruth(s) {
		e = api.ErrFail
	}
	if e == api.OK {
		o.State = s
	}
	return e
}

// bothIn reports whether low is at most high, and high is at most the end.
func bothIn(low, high, end int) bool { return low <= high && high <= end }

// followDay changes the day.
func followDay(d *slip.Day, word string, n []int, parts []string) api.Errno {
	switch word {
	case "clerk":
		if len(d.Hand.Clerks) > 2 {
			return api.ErrLimit
		}
		d.Hand.Clerks = more(d.Hand.Clerks, nil)
	case "pair":
		return followPair(d, n[0], n[1], n[2])
	case "errors":
		if n[0] > 3 {
			return api.ErrRange
		}
		d.Hand.Errors = n[0]
	case "late":
		if n[0] > 30 {
			return api.ErrRange
		}
		d.Late = n[0]
	case "sign":
		all := [][]int{nil, {0}, {1}, {0, 1}, {2}, {0, 2}, {1, 2}, {0, 1, 2}, {3}, {0, 3}, {1, 3}, {0, 1, 3}, {2, 3}, {0, 2, 3}, {1, 2, 3}, {0, 1, 2, 3}}
		if n[0] > 15 {
			return api.ErrRange
		}
		if len(d.Signs) > 5 {
			return api.ErrLimit
		}
		d.Signs = more(d.Signs, all[n[0]])
	case "slip":
		return followSlip(d, n, parts)
	case "void":
		if n[0] >= len(d.Slips) {
			return api.ErrNone
		}
		d.Slips = less(d.Slips, n[0])
	}
	return api.OK
}

// followPair adds a pair.
func followPair(d *slip.Day, clerk, written, read int) api.Errno {
	if clerk >= len(d.Hand.Clerks) {
		return api.ErrNone
	}
	if written > 9 || read > 9 || written == read {
		return api.ErrRange
	}
	pairs, x := d.Hand.Clerks[clerk], hand.Pair{Written: written, Read: read}
	for _, y := range pairs {
		if y == x {
			return api.ErrTwice
		}
	}
	if len(pairs) > 7 {
		return api.ErrLimit
	}
	d.Hand.Clerks = slices.Clone(d.Hand.Clerks)
	d.Hand.Clerks[clerk] = more(pairs, x)
	return api.OK
}

// followSlip adds a slip.
func followSlip(d *slip.Day, n []int, parts []string) api.Errno {
	if n[0] > 3 || n[2] >= len(d.Signs) || n[3] >= len(d.Hand.Clerks) {
		return api.ErrNone
	}
	if n[1] > 1 || !bothIn(n[6], n[7], 300) {
		return api.ErrRange
	}
	if len(d.Slips) > 7 {
		return api.ErrLimit
	}
	d.Slips = more(d.Slips, slip.Slip{
		House: n[0], Bought: n[1] == 1, Sign: n[2], Price: read(n[3], parts[4]), Number: read(n[3], parts[5]), Minute: slip.Range{Lo: n[6], Hi: n[7]},
	})
	return api.OK
}

// followRegister changes the register.
func followRegister(r *sheet.Register, word string, n []int) api.Errno {
	kinds := map[string]int{"pass": sheet.Pass, "loan": sheet.Loan, "return": sheet.Return}
	switch word {
	case "sheet":
		if n[0] > 3 {
			return api.ErrNone
		}
		if len(r.Start) > 3 {
			return api.ErrLimit
		}
		r.Start = more(r.Start, n[0])
	case "pass", "loan", "return":
		if n[0] >= len(r.Start) || n[1] > 3 || n[2] > 3 {
			return api.ErrNone
		}
		if n[1] == n[2] || !bothIn(n[3], n[4], 9) {
			return api.ErrRange
		}
		if len(r.Entries) > 5 {
			return api.ErrLimit
		}
		r.Entries = more(r.Entries, sheet.Entry{Kind: kinds[word], Sheet: n[0], From: n[1], To: n[2], Day: sheet.Range{Lo: n[3], Hi: n[4]}})
	case "saw":
		if n[0] >= len(r.Start) || n[1] > 3 {
			return api.ErrNone
		}
		if n[2] > 9 {
			return api.ErrRange
		}
		if len(r.Sights) > 3 {
			return api.ErrLimit
		}
		r.Sights = more(r.Sights, sheet.Sight{Sheet: n[0], House: n[1], Day: n[2]})
	case "drop":
		if n[0] >= len(r.Entries) {
			return api.ErrNone
		}
		r.Entries = less(r.Entries, n[0])
	case "forget":
		if n[0] >= len(r.Sights) {
			return api.ErrNone
		}
		r.Sights = less(r.Sights, n[0])
	}
	return api.OK
}

// followCompany changes the company.
func followCompany(c *coupon.Company, word string, n []int) api.Errno {
	switch word {
	case "held":
		if n[0] > 3 {
			return api.ErrNone
		}
		if n[1] > 100 {
			return api.ErrRange
		}
		c.Held = slices.Clone(c.Held)
		c.Held[n[0]] = n[1]
	case "trade":
		return followTrade(c, n)
	case "cancel":
		if n[0] >= len(c.Trades) {
			return api.ErrNone
		}
		c.Trades = less(c.Trades, n[0])
	case "dividend":
		if !bothIn(n[0], n[1], 11) || n[2] > 50 {
			return api.ErrRange
		}
		if len(c.Dividends) > 2 {
			return api.ErrLimit
		}
		c.Dividends = more(c.Dividends, coupon.Dividend{Ex: n[0], Record: n[1], Pence: n[2]})
	case "split":
		if n[0] > 11 || n[1] < 1 || n[1] > 6 || n[2] < 1 || n[2] > 4 {
			return api.ErrRange
		}
		for _, x := range c.Splits {
			if n[0] <= x.Day {
				return api.ErrState
			}
		}
		if len(c.Splits) > 1 {
			return api.ErrLimit
		}
		c.Splits = more(c.Splits, coupon.Split{Day: n[0], Num: n[1], Den: n[2]})
	case "closed":
		if !bothIn(n[0], n[1], 11) {
			return api.ErrRange
		}
		if len(c.Closed) > 1 {
			return api.ErrLimit
		}
		c.Closed = more(c.Closed, to(n[0], n[1]))
	}
	return api.OK
}

// followTrade adds a trade.
func followTrade(c *coupon.Company, n []int) api.Errno {
	if n[0] > 3 || n[1] > 3 {
		return api.ErrNone
	}
	isShort := n[4]-n[3] <= 2 && n[6]-n[5] <= 2
	if n[0] == n[1] || n[2] < 1 || n[2] > 100 || !bothIn(n[3], n[4], 11) || !bothIn(n[5], n[6], 11) || !isShort {
		return api.ErrRange
	}
	if len(c.Trades) > 3 {
		return api.ErrLimit
	}
	c.Trades = more(c.Trades, coupon.Trade{Seller: n[0], Buyer: n[1], Shares: n[2], Sold: to(n[3], n[4]), Delivered: to(n[5], n[6])})
	return api.OK
}

// after returns the state after the lines, and their errors.
func after(lines []string) (floor.State, []api.Errno) {
	o := wait()
	var errors []api.Errno
	for _, line := range lines {
		errors = append(errors, o.follow(line))
	}
	return o.State, errors
}

// manyPairs returns the number of pairs of a best matching: as many slips cover it.
func manyPairs(d slip.Day) int {
	if len(d.Slips) == 0 {
		return 0
	}
	cover, _ := slip.Cover(d)
	return len(cover)
}

// holders returns the houses in which the sheet can be: with one more sight of each
// of them, and with no other one, there is a truth. If there are too many sights for
// that, the package sheet is asked.
func holders(r sheet.Register, k, day int) []int {
	if len(r.Sights) == api.MaxSheetSights {
		houses, _ := sheet.Holders(r, k, day)
		return houses
	}
	var houses []int
	for house := range 4 {
		x := r
		x.Sights = more(r.Sights, sheet.Sight{Sheet: k, House: house, Day: day})
		if _, e := sheet.Explain(x); e == api.OK {
			houses = append(houses, house)
		}
	}
	return houses
}

// reportOf returns the report of the state.
func reportOf(s floor.State) string {
	text := fmt.Sprintf("pairs %d\n", manyPairs(s.Day))
	for k := range s.Register.Start {
		text += fmt.Sprintf("sheet %s\n", strings.Trim(fmt.Sprint(holders(s.Register, k, 9)), "[]"))
	}
	for k := range s.Company.Dividends {
		_, _, rights, _ := coupon.Bounds(s.Company, k)
		text += "right"
		for _, x := range rights {
			text += fmt.Sprintf(" %d..%d", x.Lo, x.Hi)
		}
		text += "\n"
	}
	return text
}

// recordOf returns the record with the index, of the line.
func recordOf(index int, line string) string {
	sum := 31 * (index + 1)
	for k := range []byte(line) {
		sum += (k + 1) * int(line[k])
	}
	return fmt.Sprintf("%02d/%s/%04d\n", len(line), line, sum%9973)
}

// fileOf returns the file of the lines.
func fileOf(lines []string) (text string) {
	for index, line := range lines {
		text += recordOf(index, line)
	}
	return text
}

// readable returns what can be read from the text, and how many bytes of it.
func readable(text string) (lines []string, many int) {
	for len(lines) < 40 {
		isRead := false
		for n := range 61 {
			if rest := text[many:]; len(rest) >= n+9 && strings.HasPrefix(rest, recordOf(len(lines), rest[3:3+n])) {
				lines, many, isRead = append(lines, rest[3:3+n]), many+n+9, true
				break
			}
		}
		if !isRead {
			break
		}
	}
	return lines, many
}

// resumed returns the file of Resume, and whether it is not too long.
func resumed(b []byte, more []string) (string, bool) {
	lines, _ := readable(string(b))
	o := wait()
	for _, line := range lines {
		o.follow(line)
	}
	for _, line := range more {
		if o.follow(line) == api.OK {
			lines = append(lines, line)
		}
	}
	return fileOf(lines), len(lines) <= 40
}
