package floor

import (
	"bytes"
	"iter"

	"contango/api"
)

// head is the beginning of a record: the digits of the number of bytes of its
// line, and a sign.
type head struct{ tens, ones, sign byte }

// digits are those of a check.
type digits [4]byte

const (
	slash     = '/'
	lineFeed  = '\n'
	headBytes = 3
	tailBytes = 6  // a sign, the digits of the check, and a line feed
	perIndex  = 31 // by which a record at the next place has another check
	checks    = 9973
)

// digit returns the last digit of the number.
func digit(n int) byte { return byte('0' + n%10) }

// headOf returns the head of the record of a line of so many bytes.
func headOf(many int) head { return head{tens: digit(many / 10), ones: digit(many), sign: slash} }

// lineBytes returns how many bytes the line has, if it is the head of a record.
func (h head) lineBytes() (int, bool) {
	for many := range api.MaxFloorLine + 1 {
		if h == headOf(many) {
			return many, true
		}
	}
	return 0, false
}

// checkOf returns the check of the record with the index, of the line.
func checkOf(index int, line string) int {
	sum := perIndex * (index + 1)
	for k := range len(line) {
		sum += (k + 1) * int(line[k])
	}
	return sum % checks
}

// digitsOf returns the digits of the check.
func digitsOf(check int) digits {
	var d digits
	for i := range d {
		d[len(d)-1-i] = digit(check)
		check /= 10
	}
	return d
}

// recordBytes returns how many bytes the record of the line has.
func recordBytes(line string) int { return headBytes + len(line) + tailBytes }

// record returns the record with the index, of the line.
func record(index int, line string) []byte {
	h, d := headOf(len(line)), digitsOf(checkOf(index, line))
	b := make([]byte, recordBytes(line))
	at := copy(b, []byte{h.tens, h.ones, h.sign})
	at += copy(b[at:], line)
	b[at] = slash
	copy(b[at+1:], d[:])
	b[len(b)-1] = lineFeed
	return b
}

// file returns the file of the lines.
func file(lines []string) []byte {
	var b []byte
	for index, line := range lines {
		b = append(b, record(index, line)...)
	}
	return b
}

// firstLine returns the line of the record with the index that the bytes begin
// with, and whether this record is whole.
func firstLine(b []byte, index int) (string, bool) {
	if len(b) < headBytes {
		return "", false
	}
	many, ok := head{tens: b[0], ones: b[1], sign: b[2]}.lineBytes()
	if !ok || len(b) < headBytes+many {
		return "", false
	}
	line := string(b[headBytes : headBytes+many])
	return line, bytes.HasPrefix(b, record(index, line))
}

// records returns the lines that can be read from the bytes.
func records(b []byte) iter.Seq[string] {
	return func(yield func(string) bool) {
		rest := b
	reading:
		for index := range api.MaxFloorSession {
			switch line, isWhole := firstLine(rest, index); {
			case isWhole && yield(line):
				rest = rest[recordBytes(line):]
			default:
				break reading
			}
		}
	}
}
