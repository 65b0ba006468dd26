package hand_test

import (
	"math/rand"
	"slices"
	"strconv"
	"strings"

	"contango/api"
	"contango/hand"
)

// The oracle follows the chapter's definitions on strings, and tries everything.

// allTexts returns all texts, in the order of their values.
func allTexts() []string {
	var list []string
	for whole := range 10000 {
		s := strconv.Itoa(whole)
		list = append(list, s)
		for part := 1; part < 8; part++ {
			list = append(list, s+"/"+strconv.Itoa(part))
		}
	}
	return list
}

// allShapes returns all strings that have a shape with at most so many figures before the slash.
func allShapes(most int) []string {
	list := []string{}
	whole := []string{""}
	for range most {
		var longer []string
		for _, s := range whole {
			for n := range 10 {
				longer = append(longer, s+strconv.Itoa(n))
			}
		}
		whole = longer
		for _, s := range whole {
			list = append(list, s)
			for n := range 10 {
				list = append(list, s+"/"+strconv.Itoa(n))
			}
		}
	}
	return list
}

// reads returns how many figures the clerk misreads who reads the text so, and whether he can.
func reads(h hand.Hand, clerk int, text, read string) (int, bool) {
	if len(text) != len(read) || strings.IndexByte(text, '/') != strings.IndexByte(read, '/') {
		return 0, false
	}
	many := 0
	for i := range len(text) {
		if text[i] == read[i] {
			continue
		}
		if !slices.Contains(h.Clerks[clerk], hand.Pair{Written: int(text[i]) - '0', Read: int(read[i]) - '0'}) {
			return 0, false
		}
		many++
	}
	return many, many <= h.Errors
}

// checkOf returns the check figure of the text.
func checkOf(text string) int {
	sum := 0
	for _, r := range text {
		if r != '/' {
			sum += int(r) - '0'
		}
	}
	return sum % 9
}

// can reports whether the text can have been written.
func can(h hand.Hand, n hand.Note, text string) bool {
	for _, r := range n.Readings {
		if _, ok := reads(h, r.Clerk, text, r.Text); !ok {
			return false
		}
	}
	return n.Check == hand.None || n.Check == checkOf(text)
}

// canBeWritten returns those of the texts that can have been written.
func canBeWritten(texts []string, h hand.Hand, n hand.Note) []string {
	var list []string
	for _, s := range texts {
		if can(h, n, s) {
			list = append(list, s)
		}
	}
	slices.Sort(list)
	return list
}

// lists returns all increasing lists of indexes below n but the whole one,
// the shortest first, and those of one length in lexicographic order.
func lists(n int) [][]int {
	var out [][]int
	for bits := range 1<<n - 1 {
		list := []int{}
		for i := range n {
			if bits>>i&1 == 1 {
				list = append(list, i)
			}
		}
		out = append(out, list)
	}
	slices.SortFunc(out, func(a, b []int) int {
		if len(a) != len(b) {
			return len(a) - len(b)
		}
		return slices.Compare(a, b)
	})
	return out
}

// without returns the note without the readings of these indexes.
func without(n hand.Note, left []int) hand.Note {
	kept := hand.Note{Check: n.Check}
	for i, r := range n.Readings {
		if !slices.Contains(left, i) {
			kept.Readings = append(kept.Readings, r)
		}
	}
	return kept
}

// with returns the note with one more reading.
func with(n hand.Note, clerk int, text string) hand.Note {
	more := slices.Clone(n.Readings)
	return hand.Note{Readings: append(more, hand.Reading{Clerk: clerk, Text: text}), Check: n.Check}
}

// sample is a valid hand and note, and the text that most of its readings are of.
type sample struct {
	h    hand.Hand
	n    hand.Note
	text string
}

// pick returns one of the elements.
func pick[T any](r *rand.Rand, list ...T) T { return list[r.Intn(len(list))] }

// sign returns one of a few figures, so that pairs and texts often meet.
func sign(r *rand.Rand) int { return pick(r, 0, 1, 1, 3, 7, 7, 8) }

// someHand returns a valid hand.
func someHand(r *rand.Rand) hand.Hand {
	h := hand.Hand{Errors: r.Intn(api.MaxHandErrors + 1)}
	for range 1 + r.Intn(api.MaxHandClerks) {
		var clerk []hand.Pair
		for range r.Intn(api.MaxHandPairs + 1) {
			p := hand.Pair{Written: sign(r), Read: sign(r)}
			if p.Written != p.Read && !slices.Contains(clerk, p) {
				clerk = append(clerk, p)
			}
		}
		h.Clerks = append(h.Clerks, clerk)
	}
	return h
}

// someShape returns a string that has a shape; it may be no text.
func someShape(r *rand.Rand) string {
	s := ""
	for range 1 + r.Intn(api.MaxHandDigits) {
		s += strconv.Itoa(sign(r))
	}
	if r.Intn(2) == 0 {
		s += "/" + strconv.Itoa(sign(r))
	}
	return s
}

// someText returns a text.
func someText(r *rand.Rand) string {
	for {
		s := someShape(r)
		if _, e := hand.Value(s); e == api.OK {
			return s
		}
	}
}

// readBy returns what the clerk can read the text as.
func readBy(r *rand.Rand, h hand.Hand, clerk int, text string) string {
	read := []byte(text)
	left := h.Errors
	for i, b := range read {
		for _, p := range h.Clerks[clerk] {
			if left > 0 && int(b)-'0' == p.Written && r.Intn(2) == 0 {
				read[i] = byte('0' + p.Read)
				left--
				break
			}
		}
	}
	return string(read)
}

// someNote returns a note of the text. Unless it is true, some of it may be wrong.
func someNote(r *rand.Rand, h hand.Hand, text string, isTrue bool) hand.Note {
	n := hand.Note{Check: pick(r, hand.None, hand.None, checkOf(text))}
	for range 1 + r.Intn(api.MaxHandReadings) {
		clerk := r.Intn(len(h.Clerks))
		read := readBy(r, h, clerk, text)
		if !isTrue && r.Intn(4) == 0 {
			read = pick(r, someShape(r), readBy(r, h, clerk, someText(r)))
		}
		n.Readings = append(n.Readings, hand.Reading{Clerk: clerk, Text: read})
	}
	if !isTrue && r.Intn(8) == 0 {
		n.Check = r.Intn(9)
	}
	return n
}

// samples returns so many samples, always the same ones.
func samples(many int, isTrue bool) []sample {
	r := rand.New(rand.NewSource(1929))
	var list []sample
	for range many {
		s := sample{h: someHand(r), text: someText(r)}
		s.n = someNote(r, s.h, s.text, isTrue)
		list = append(list, s)
	}
	return list
}
