package floor_test

import (
	"fmt"
	"math/rand"
	"slices"
	"strings"

	"contango/api"
)

// Samples are sessions of which many lines are accepted, and many refused, for each
// of the reasons.

// dayWords, registerWords and companyWords are the words of the parts of a state.
func dayWords() []string {
	return []string{"clerk", "pair", "errors", "late", "sign", "slip", "void"}
}

func registerWords() []string {
	return []string{"sheet", "pass", "loan", "return", "saw", "drop", "forget"}
}

func companyWords() []string {
	return []string{"held", "trade", "cancel", "dividend", "split", "closed"}
}

// isOf reports whether the line begins with one of the words.
func isOf(line string, words []string) bool {
	word, _, _ := strings.Cut(line, " ")
	return slices.Contains(words, word)
}

// number returns a number of the range, or sometimes a greater one.
func number(r *rand.Rand, low, high int) int {
	if r.Intn(40) == 0 {
		return high + 1 + r.Intn(3)
	}
	return between(r, low, high)
}

// days returns two numbers for a range that is at most so wide, or sometimes none.
func days(r *rand.Rand, last, wide int) string {
	low := number(r, 0, last)
	high := min(low+r.Intn(wide+1), max(last, low))
	if r.Intn(40) == 0 {
		high = low + between(r, -2, wide+1)
	}
	return fmt.Sprint(low, " ", max(high, 0))
}

// someShape returns a shape, or sometimes none.
func someShape(r *rand.Rand) string {
	return pick(r, "100", "100", "100", "700", "100", "100", "100", pick(r, "45/3", "45/8", "05", "9999/0", "1/", "12345"))
}

// dayLine returns a line of a day.
func dayLine(r *rand.Rand, word string) string {
	switch word {
	case "clerk":
		return word
	case "pair":
		return fmt.Sprint(word, " ", number(r, 0, 1), " ", pick(r, 1, 3, number(r, 0, 9)), " ", pick(r, 7, 8, number(r, 0, 9)))
	case "errors":
		return fmt.Sprint(word, " ", number(r, 0, 3))
	case "late":
		return fmt.Sprint(word, " ", pick(r, 0, 2, 5, number(r, 0, 30)))
	case "sign":
		return fmt.Sprint(word, " ", pick(r, 15, 7, 3, number(r, 0, 15)))
	case "slip":
		minute := pick(r, "10 10", "9 12", "9 12", "12 15", days(r, 300, 20))
		number, reader := pick(r, 0, 0, 1, number(r, 0, 2)), r.Intn(12)/11
		return fmt.Sprint(word, " ", r.Intn(33)/8, " ", r.Intn(21)/10, " ", number, " ", reader, " ", someShape(r), " ", someShape(r), " ", minute)
	}
	return fmt.Sprint("void ", r.Intn(6))
}

// registerLine returns a line of a register.
func registerLine(r *rand.Rand, word string) string {
	switch word {
	case "sheet":
		return fmt.Sprint(word, " ", number(r, 0, 3))
	case "saw":
		return fmt.Sprint(word, " ", r.Intn(9)/4, " ", number(r, 0, 3), " ", number(r, 0, 9))
	case "drop":
		return fmt.Sprint(word, " ", r.Intn(5))
	case "forget":
		return fmt.Sprint(word, " ", r.Intn(3))
	}
	from := pick(r, 0, 1, number(r, 0, 3))
	to := pick(r, 1-min(from, 1), 1-min(from, 1), number(r, 0, 3))
	return fmt.Sprint(word, " ", r.Intn(9)/4, " ", from, " ", to, " ", days(r, 9, 6))
}

// companyLine returns a line of a company.
func companyLine(r *rand.Rand, word string) string {
	switch word {
	case "held":
		return fmt.Sprint(word, " ", number(r, 0, 3), " ", pick(r, 0, 1, 2, 4, 9, number(r, 0, 100)))
	case "cancel":
		return fmt.Sprint(word, " ", r.Intn(4))
	case "dividend":
		return fmt.Sprint(word, " ", days(r, 11, 4), " ", number(r, 0, 50))
	case "split":
		return fmt.Sprint(word, " ", number(r, 0, 11), " ", number(r, 1, 6)-r.Intn(20)/19, " ", number(r, 1, 4)-r.Intn(20)/19)
	case "closed":
		return fmt.Sprint(word, " ", days(r, 11, 4))
	}
	seller := number(r, 0, 3)
	buyer := (seller + 1 + r.Intn(3)) % 4
	if r.Intn(20) == 0 {
		buyer = number(r, 0, 3)
	}
	sold := days(r, 7, 2)
	var first int
	fmt.Sscan(sold, &first)
	low := min(first+r.Intn(3), 11)
	delivered := fmt.Sprint(low, " ", min(low+r.Intn(3), 11))
	return fmt.Sprint(word, " ", seller, " ", buyer, " ", pick(r, 1, 1, 2, number(r, 0, 9)), " ", sold, " ", pick(r, delivered, delivered, delivered, days(r, 11, 2)))
}

// wrongLine returns a line that has the form of no word.
func wrongLine(r *rand.Rand) string {
	line := someLine(r)
	switch r.Intn(4) {
	case 0:
		return line + pick(r, " ", " 0", "x")
	case 1:
		return " " + line
	case 2:
		return strings.Replace(line, " ", pick(r, "  ", " 0", " -", "x"), 1) + "."
	}
	return strings.ToUpper(line)
}

// someLine returns a line of any word.
func someLine(r *rand.Rand) string {
	switch r.Intn(3) {
	case 0:
		return dayLine(r, pick(r, append(dayWords(), "slip", "slip", "slip", "pair", "sign")...))
	case 1:
		return registerLine(r, pick(r, append(registerWords(), "pass", "pass", "loan", "return", "saw", "saw")...))
	}
	return companyLine(r, pick(r, append(companyWords(), "trade", "trade", "trade", "held")...))
}

// themes are words of which sessions can have most.
func themes() [][]string {
	return [][]string{
		{"clerk", "pair"}, {"pair"}, {"slip"}, {"slip", "slip", "slip", "void", "late"}, dayWords(),
		{"sheet"}, {"saw"}, {"pass", "loan"}, {"pass", "loan", "return", "return"}, {"loan", "return"}, {"pass", "pass", "saw", "drop", "forget"}, registerWords(),
		{"trade"}, {"trade", "trade", "held", "cancel"}, {"trade", "split", "closed"}, {"trade", "trade", "trade", "held", "split"}, companyWords(),
		slices.Concat(dayWords(), registerWords(), companyWords()),
	}
}

// lineOf returns a line of the word.
func lineOf(r *rand.Rand, word string) string {
	switch {
	case slices.Contains(dayWords(), word):
		return dayLine(r, word)
	case slices.Contains(registerWords(), word):
		return registerLine(r, word)
	}
	return companyLine(r, word)
}

// someSession returns a session, mostly of these words, or of some.
func someSession(r *rand.Rand, words ...string) []string {
	lines := []string{"clerk", "sign 15", "sign 7", "sheet 0", "sheet 1", "held 0 3"}
	lines = slices.Clone(pick(r, lines, lines, theDay(), theDay()[:r.Intn(21)], nil))
	if len(words) == 0 {
		words = pick(r, themes()...)
	}
	for end := between(r, len(lines), api.MaxFloorSession); len(lines) < end; {
		line := lineOf(r, pick(r, words...))
		switch r.Intn(15) {
		case 0:
			line = wrongLine(r)
		case 1, 2:
			line = someLine(r)
		}
		lines = append(lines, line)
	}
	return lines
}

// sessions returns so many sessions, mostly of these words, or of some.
func sessions(seed int64, many int, words ...string) [][]string {
	r := rand.New(rand.NewSource(seed))
	var list [][]string
	for range many {
		list = append(list, someSession(r, words...))
	}
	return list
}

// anyLine returns a string that can be anything, at most so long.
func anyLine(r *rand.Rand, most int) string {
	b := make([]byte, r.Intn(most+1))
	for i := range b {
		b[i] = pick(r, '/', '\n', ' ', '0', '1', byte(r.Intn(256)))
	}
	return string(b)
}

// anyLines returns lines of a file, of which many are no lines of a session.
func anyLines(r *rand.Rand) []string {
	var lines []string
	for range pick(r, 0, 1, 2, 5, 40) {
		lines = append(lines, pick(r, someLine(r), anyLine(r, 60), anyLine(r, 3), fileOf([]string{anyLine(r, 20)})))
	}
	return lines
}
