package floor

import (
	"testing"

	"contango/api"
)

// TestAnswer: a refusal is the answer to a line, a fault of the program is none.
func TestAnswer(t *testing.T) {
	if e := answer(func() {}); e != api.OK {
		t.Errorf("answer: %v", e)
	}
	if e := answer(func() { refuse(api.ErrTwice, false, true) }); e != api.ErrTwice {
		t.Errorf("answer of a refusal: %v", e)
	}
	if e := answer(func() { refuse(api.ErrTwice, false, false) }); e != api.OK {
		t.Errorf("answer, if nothing is so: %v", e)
	}
	defer func() {
		if recover() != "fault" {
			t.Error("answer hides a fault")
		}
	}()
	t.Errorf("answer of a fault: %v", answer(func() { panic("fault") }))
}
