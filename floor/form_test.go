package floor_test

import (
	"slices"
	"strings"
	"testing"

	"contango/api"
	"contango/floor"
)

// accepted has for each word a line that is accepted after the session of the
// examples and a sight.
func accepted() []string {
	return []string{
		"clerk", "pair 0 7 1", "errors 2", "late 3", "sign 4", "slip 1 1 2 0 45 100 1 2", "void 0",
		"sheet 2", "pass 0 2 3 6 7", "loan 0 2 3 6 7", "return 1 0 1 6 7", "saw 0 2 8", "drop 2", "forget 0",
		"held 1 5", "trade 0 3 1 5 6 7 8", "cancel 0", "dividend 1 2 3", "split 5 3 4", "closed 8 9",
	}
}

// theForms returns the session after which they are.
func theForms(line string) []string {
	return theDay("drop 2", "loan 1 1 0 3 5", "saw 0 2 5", line)
}

// answerTo returns the error of the last line.
func answerTo(t *testing.T, lines []string) api.Errno {
	t.Helper()
	_, errors, e := floor.Play(lines)
	if e != api.OK || len(errors) != len(lines) {
		t.Fatalf("Play of %q: %v, %v", lines, errors, e)
	}
	return errors[len(errors)-1]
}

// testForm tests that the line has the form of no word.
func testForm(t *testing.T, line string) {
	t.Helper()
	if e := answerTo(t, theForms(line)); e != api.ErrForm {
		t.Errorf("%q: %v", line, e)
	}
	// So is one before which nothing is recorded, and one to which it would be too much.
	if e := answerTo(t, []string{line}); e != api.ErrForm {
		t.Errorf("%q alone: %v", line, e)
	}
}

// isShapePart reports whether the k-th field of the line is a string.
func isShapePart(line string, k int) bool {
	return strings.HasPrefix(line, "slip") && (k == 5 || k == 6)
}

func TestP12_1Form(t *testing.T) {
	for _, line := range accepted() {
		if e := answerTo(t, theForms(line)); e != api.OK {
			t.Fatalf("%q: %v", line, e)
		}
		fields := strings.Split(line, " ")
		testForm(t, strings.Join(fields[:len(fields)-1], " "))
		for _, more := range []string{" ", " 0", " x", "\n", "\t", "0 0", "."} {
			testForm(t, line+more)
		}
		for _, less := range []string{" ", "x", "\t", "\x00"} {
			testForm(t, less+line)
		}
		testForm(t, strings.ToUpper(line))
		testForm(t, strings.ToUpper(line[:1])+line[1:])
		testForm(t, line[1:])
		if len(fields) > 1 {
			testForm(t, strings.Replace(line, " ", "  ", 1))
			testForm(t, strings.Replace(line, " ", "\t", 1))
			testForm(t, strings.Replace(line, " ", "", 1))
		}
	}
	for _, line := range []string{"", " ", "x", "0", "clerks", "cler", "clerk clerk", "pairs 0 7 1", "refuse 1", "number 1", "\xff"} {
		testForm(t, line)
	}
}

// TestP12_1Parts: what a part can be.
func TestP12_1Parts(t *testing.T) {
	notNumbers := []string{"", "x", "-1", "-0", "+1", "00", "01", "007", "10000", "99999", "12345678901234567890", "1.", "1.0", "1e1", "0x1", "1_0", "1/1", "1x", "x1", "\u0661", "1\n", "\x001"}
	notShapes := []string{"", "x", "-1", "+1", "12345", "00000", "1/", "/1", "/", "1/12", "1//1", "1/1/1", "12345/1", "1/x", "1x", "1.1", "1\\1", "\u0661", "1/\u0661", "1\n"}
	shapes := []string{"0", "00", "0000", "05", "9999", "1/0", "1/9", "0000/0", "9999/8", "45/8"}
	for _, line := range accepted() {
		fields := strings.Split(line, " ")
		for k := range fields[1:] {
			wrong, k := notNumbers, k+1
			if isShapePart(line, k) {
				wrong = notShapes
			}
			for _, part := range wrong {
				testForm(t, strings.Join(slices.Concat(fields[:k], []string{part}, fields[k+1:]), " "))
			}
		}
	}
	for _, text := range shapes {
		for _, line := range []string{"slip 1 1 2 0 " + text + " 100 1 2", "slip 1 1 2 0 45 " + text + " 1 2"} {
			if e := answerTo(t, theForms(line)); e != api.OK {
				t.Errorf("%q: %v", line, e)
			}
		}
	}
}

// TestP12_1FormFirst: whether a line has the form of a word is asked before
// anything else.
func TestP12_1FormFirst(t *testing.T) {
	for _, x := range []last{
		is(api.ErrForm, "clerk", "clerk", "clerk", "clerk "),
		is(api.ErrForm, "pair 1 10 010"),
		is(api.ErrForm, "pair 9 9 -9"),
		is(api.ErrForm, "slip 9 9 9 9 45x 100 9 8"),
		is(api.ErrForm, "slip 9 9 9 9 45 100 9 08"),
		is(api.ErrForm, "slip 0 1 0 0 45 12345 1 1"),
		is(api.ErrForm, "pass 9 9 9 9 "),
		is(api.ErrForm, "drop x"),
		is(api.ErrForm, "trade 9 9 9 9 9 9 9 9"),
		is(api.ErrForm, "split 99 99 99999"),
		is(api.ErrNone, "slip 9 9 9 9 45 100 9999 9998"),
		is(api.ErrNone, "trade 9999 9999 9999 9999 9999 9999 9999"),
		is(api.ErrRange, "split 9999 9999 9999"),
	} {
		_, errors, e := floor.Play(x.lines)
		if e != api.OK || errors[len(errors)-1] != x.e {
			t.Errorf("Play of %q: %v, %v", x.lines, errors, e)
		}
	}
}
